import Derived.Test.YtngnoopnloojjaaGreatDoorQ00
namespace Go.Proofs.YtngnoopnloojjaaGreatDoor
open Go.Value Go.World List
set_option linter.all false
set_option maxRecDepth 100000
set_option maxHeartbeats 0
section
open Go.RowKit
variable{S T:DO}{a b c w w':AT}
structure aA (S:DO) (W w':AT):Prop where
 os:w'.os=W.os
 tape:w'.tape=W.tape
 output:w'.output=W.output
 size:W.heap.size<=w'.heap.size
 block:∀k,k<W.heap.size->¬S k->w'.heap[k]? =W.heap[k]?
def aA.refl(S:DO)(W:AT):aA S W W:=⟨rfl,rfl,rfl,n_,λ_ _ _=>rfl⟩
def aA.trans(h:aA S a b)(k:aA S b c):aA S a c:=
 ⟨k.os.trans h.os,k.tape.trans h.tape,k.output.trans h.output,t_ h.size k.size,λi hi hg=>(k.block i (l_ hi h.size) hg).trans (h.block i hi hg)⟩
def aA.next(h:aA S a b)(k:aA T b c)(hT:∀x,T x->S x\/a.heap.size<=x):aA S a c:=
 ⟨k.os.trans h.os,k.tape.trans h.tape,k.output.trans h.output,t_ h.size k.size,λi hi hg=>(k.block i (l_ hi h.size) (λt=>by rcases hT i t with x|x;exact hg x;omega)).trans (h.block i hi hg)⟩
def aA.mono(h:aA S a b)(hs:∀k,S k->T k):aA T a b:=
 ⟨h.os,h.tape,h.output,h.size,λk hk hn=>h.block k hk λs=>hn (hs k s)⟩
def aA.drew(h:aA S a w):aA S a w.drew:=h.trans ⟨rfl,rfl,rfl,n_,λ_ _ _=>rfl⟩
def aA.setCell(h:aA S a w){p:Addr}(hp:S p.block)(u:BY):aA S a (w.setCell p u):=
 h.trans ⟨rfl,rfl,rfl,i_,λk _ hk=>Below.heap_setCell w p u k λe=>hk (e ▸ hp)⟩
def aA.alloc(h:aA S a w)(o:Obj):aA S a (w.alloc o):=
 h.trans ⟨rfl,rfl,rfl,i_,λk hk _=>Below.heap_alloc w o k hk⟩
def aA.of_below(h:aA S a w)(hb:Bl w w'):aA S a w':=
 h.trans ⟨hb.os,hb.tape,hb.output,hb.size,λk hk _=>hb.block k hk⟩
def aA.below{B:Nat}(h:aA S w w')(hb:Below B a w)(hB:B<=w.heap.size)(hg:∀k,S k->B<=k):Below B a w':=
 ⟨h.os.trans hb.os,h.tape.trans hb.tape,h.output.trans hb.output,t_ hb.size h.size,λk hk=>(h.block k o_ (λs=>Ft (hg k s))).trans (hb.block k hk)⟩
def aA.of_grown{row:Option Nat}(hg:a.grownBy w row)(hr:∀k,row=some k->S k):aA S a w:=
 ⟨hg.os,hg.tape,hg.output,hg.size,λk hk hn=>hg.block k hk (λe=>hn (hr k e.symm))⟩
def _root_.Go.RowKit.Below.tcs(h:Bl a w):aA S a w:=⟨h.os,h.tape,h.output,h.size,λk hk _=>h.block k hk⟩
end
section
structure Nd where
 kd:Int
 val:Int
 nm:IF
structure St where
 kd:Int
 nm:IF
 e:List Nd
 f:List Nd
 th:Int
 el:Int
structure Fu where
 nm:IF
 pm:List IF
 bd:List St
structure Gl where
 nm:IF
 size:Int
structure Tr where
 gl:List Gl
 fc:List Fu
def eJ(c:Int):Bool:=decide (97<=c/\c<=122\/c=95)
def iL(c:Int):Bool:=decide (48<=c/\c<=57)
def gR(c:Int):Bool:=eJ c || iL c
def i7(s:IF):Bool:=
 s.toList == [105,110,116] || s.toList == [105,102] || s.toList == [101,108,115,101] || s.toList == [119,104,105,108,101] || s.toList == [114,101,116,117,114,110] || s.toList == [105,110] || s.toList == [111,117,116]
def iM(s:IF)(k:Nat):Int:=((s.data.toList.getD k 0).toNat:Int)
def Ac(s:IF)(k:Nat):Prop:=∀j,j<k->gR (iM s j)=true
def Ad(s:IF):Prop:=1<=s.size/\s.size<=20/\eJ (iM s 0)=true/\(∀j,j<s.size->gR (iM s j)=true)/\i7 s=false
def cU (s : IF) : Bool := @decide (Ad s) (inferInstanceAs (Decidable (1<=s.size/\s.size<=20/\eJ (iM s 0)=true/\(∀j,j<s.size->gR (iM s j)=true)/\i7 s=false)))
def arity(n:Nd):Int:=if n.kd=3\/n.kd=6 then 1 else if n.kd=4 then n.val else if n.kd=7\/n.kd=8\/n.kd=9 then 2 else 0
def aD(n:Nd):Bool:=
 if n.kd=1 then decide (-2147483648<=n.val/\n.val<=2147483647)&&n.nm.toList == []
 else if n.kd=2\/n.kd=3 then decide (n.val=0)&&cU n.nm
 else if n.kd=4 then decide (0<=n.val/\n.val<=6)&&cU n.nm
 else if n.kd=6 then decide (0<=n.val/\n.val<=2)&&n.nm.toList == []
 else if n.kd=7 then decide (0<=n.val/\n.val<=15)&&n.nm.toList == []
 else if n.kd=5\/n.kd=8\/n.kd=9 then decide (n.val=0)&&n.nm.toList == []
 else false
def dC{n:Nd}(h:aD n=true):0<=arity n/\arity n<=6:=by unfold aD at h;unfold arity;by_cases h4:n.kd=4;simp[h4]at h⊢;omega;split <;> (try split) <;> (try split) <;> omega
def wholeTo:List Nd->Int->Option Int
 | [],k=>some k
 | n::r,k=>if aD n=true/\arity n<=k then wholeTo r (k+1-arity n)else none
def oneB(e:List Nd):Bool:=wholeTo e 0 == some 1
def fb{n:Nd}(h:aD n=true):1<=n.kd/\n.kd<=9:=by by_cases hk:n.kd<1\/9<n.kd;unfold aD at h;rw[if_neg o_,if_neg o_,if_neg o_,if_neg o_,if_neg o_,if_neg o_]at h;cases h;omega
theorem wholeTo_append(a b:List Nd)(k:Int):wholeTo (a++b) k=(wholeTo a k).bind (wholeTo b):=by
 induction a generalizing k with
 | nil=>rfl
 | cons n r ih=>simp only[cons_append,wholeTo];split;exact ih _;rfl
theorem li(a:List Nd)(k q:Int)(h:wholeTo a k=some q)(H:0<=k):0<=q/\q<=k+a.length:=by
 induction a generalizing k with
 | nil=>simp only[wholeTo,If]at h;subst h;simp;omega
 | cons n r ih=>
  simp only[wholeTo]at h;split at h;rename_i hn;have:=dC hn.1
  have:=ih _ h o_
  simp only[l_c];omega;cases h
def bP{α:Type}(l:List α)(k:Nat)(h:k<l.length):l.take (k+1)=l.take k++[l[k]]:=by rw[take_succ_eq_append_getElem h]
def fE(l:List Nd)(k:Nat)(q:Int)(h:k<l.length)(H:wholeTo (l.take k) 0=some q):
  wholeTo (l.take (k+1)) 0=if aD l[k]=true/\arity l[k]<=q then some (q+1-arity l[k])else none:=by
 rw[bP l k h,wholeTo_append,H];simp[wholeTo]
def rF(l:List Nd)(k:Nat)(h:wholeTo (l.take k) 0=none):oneB l=false:=by
 have:wholeTo l 0=none:=by rw[<-take_append_drop k l,wholeTo_append,h];rfl
 simp[oneB,this]
def Bb(l:List Nd)(q:Int)(h:wholeTo (l.take l.length) 0=some q):oneB l=(q == 1):=by rw[take_length]at h;simp only[oneB,h];apply Bool.eq_iff_iff.2;simp
end
structure Ins where
 op:Int
 rd:Int
 s1:Int
 s2:Int
 im:Int
structure It where
 kd:Int
 ins:Ins
 label:Int
def cV:It:=⟨0,⟨0,0,0,0,0⟩,0⟩
def oX(it:It)(l:Bool):Nat:=if it.kd=2 then 0 else if l then 2 else 1
def jS(its:List It)(lg:List Bool):Nat->Nat
 | 0=>0
 | k+1=>jS its lg k+oX (its.getD k cV) (lg.getD k false)
theorem lj(its:List It)(h:List Bool)(k:Nat):jS its h k<=2*k:=by
 induction k with
 | zero=>simp[jS]
 | succ k ih=>
  have:oX (its.getD k cV) (h.getD k false)<=2:=by unfold oX;split;omega;split <;> omega
  simp only[jS];omega
def Jz(x:It)(lab:Int):Bool:=decide (x.kd=2/\x.label=lab)
def dD(its:List It)(lab:Int):List Nat:=(List.range its.length).filter (λk=>Jz (its.getD k cV) lab)
def posL_snoc(its:List It)(x:It)(lab:Int):dD (its++[x]) lab=dD its lab++(if Jz x lab then[its.length]else[]):=by
 unfold dD;rw[l_a,length_singleton,range_succ,filter_append];congr 1;apply filter_congr;intro k h;have h:=mem_range.1 h;simp[List.getD,getElem?_append_left h];have e:(its++[x]).getD its.length cV=x:=by simp[List.getD]
 simp only[filter_cons,filter_nil,e]
def uM{its:List It}{lab:Int}{k:Nat}(h:k∈dD its lab):k<its.length/\Jz (its.getD k cV) lab=true:=by simpa[dD]using h
def DB{its:List It}{lab:Int}{k:Nat}(h:k<its.length)(H:Jz (its.getD k cV) lab=true):k∈dD its lab:=by simpa[dD]using⟨h,H⟩
theorem tq(its:List It)(k:Nat)(lab:Int):(dD (its.take k) lab).length<=(dD its lab).length:=by
 have Ja:∀d,k+d<=its.length->(dD (its.take k) lab).length<=(dD (its.take (k+d)) lab).length:=by
  intro d;induction d with
  | zero=>intro _;exact n_
  | succ d ih=>
   intro h;have e:its.take (k+(d+1))=its.take (k+d)++[its[k+d]]:=by rw[<-Nat.add_assoc,take_add_one,K3 o_];rfl
   rw[e,posL_snoc,l_a];have:=ih o_;omega
 by_cases hk:k<=its.length
 have:=Ja (its.length-k) o_
 rw[show k+(its.length-k)=its.length by omega,take_length]at this;exact this;rw[take_of_length_le o_];exact n_
def Linked(its:List It):Prop:=∀i,i<its.length->(its.getD i cV).kd≠1->(dD its (its.getD i cV).label).length=1
def mD(its:List It)(i:Nat):Nat:=if (its.getD i cV).kd=1 then 0 else(dD its (its.getD i cV).label).headD 0
theorem DC{its:List It}(h:Linked its){i:Nat}(I:i<its.length):mD its i<its.length:=by
 unfold mD;split;omega;rename_i hk;have H:=h i I hk;cases e:dD its (its.getD i cV).label with
 | nil=>rw[e]at H;cases H
 | cons k r=>have:k∈dD its (its.getD i cV).label:=(by rw[e];simp);exact(uM this).1
def tu(its:List It)(lg:List Bool)(i:Nat):Int:=4*(jS its lg (mD its i):Int)-4*(jS its lg i:Int)
def reach(x:Int):Bool:=decide (-4096<=x/\x<=4094)
def grows(its:List It)(lg:List Bool)(i:Nat):Bool:=decide ((its.getD i cV).kd=3) && !lg.getD i false && !reach (tu its lg i)
def turn(its:List It)(lg:List Bool):List Bool:=(List.range lg.length).map (λi=>lg.getD i false || grows its lg i)
def turn_len(its:List It)(h:List Bool):(turn its h).length=h.length:=by simp[turn]
def oF(its:List It)(H:List Bool)(i:Nat)(h:i<H.length):(turn its H).getD i false=(H.getD i false || grows its H i):=by simp[turn,List.getD,h]
def turns(its:List It):Nat->List Bool
 | 0=>List.replicate its.length false
 | m+1=>turn its (turns its m)
theorem Bc(its:List It)(m:Nat):(turns its m).length=its.length:=by
 induction m with
 | zero=>simp[turns]
 | succ m ih=>simp[turns,turn_len,ih]
def Fin(its:List It)(lg:List Bool):Prop:=(∃m,lg=turns its m)/\turn its lg=lg
theorem oY{its:List It}{m:Nat}(h:turn its (turns its m)=turns its m):∀d,turns its (m+d)=turns its m:=by
 intro d;induction d with
 | zero=>rfl
 | succ d ih=>rw[<-Nat.add_assoc];simp only[turns];rw[ih,h]
def Fin.one{its:List It}{l I:List Bool}(h:Fin its l)(O:Fin its I):l=I:=by obtain⟨⟨m,rfl⟩,J⟩:=h;obtain⟨⟨H,rfl⟩,Ja⟩:=O;by_cases hle:m<=H;obtain⟨d,rfl⟩:=Nat.exists_eq_add_of_le hle;exact(oY J d).symm;obtain⟨d,rfl⟩:=Nat.exists_eq_add_of_le (show H<=m by omega);exact oY Ja d
section
open Go.RowKit
section
variable{P:Program}{w:AT}
def fV(Jf:Nat)(t J e:IN)(i:TypeInfo)(z:BY)(size bytes:Nat)(U:P.underlying t=some (.slice e))(X:P.info? e=some i)(hz:i.zero=some z)
  (Ja:i.size=size) (Jl:i.bytes=bytes) (Jq:z.cells.size=size) (Jp:0<size)
  (v:BY) (n:Nat) (H:List BY) (Je:w.ownsRow Jf e size v n H)
  (a:Addr) (m c:Nat) (Jb:List BY) (I:Jb.length=m*size) (Jc:∀j u,Jb[j]? =some u->w.cell? (a.add j)=some u) (Z:∀u∈Jb,u.oneCell'=true)
  (hm:n+m<=10000000) (Js:bytes<=1000) (Ji:Jf<=w.heap.size):
  ∃v' w',(Builtin.append_ #[t,t] J #[v,.slice (some a) m c]).run P w=.ok v' w'/\w'.ownsRow Jf e size v' (n+m) (H++Jb)/\w.grownBy w' v.ownBlock/\∀k,v'.ownBlock=some k->v.ownBlock=some k\/w.heap.size<=k:=by
 have Jd:(n+m)*bytes<=140737488355328:=by
  have:(n+m)*bytes<=10000000*1000:=Nat.mul_le_mul hm Js
  omega
 have Jm:n+m<=maxLen:=by unfold maxLen;omega
 have⟨v',w',O,r2,r3,r4⟩:=run_append_own (P:=P) w Jf t J e i z size bytes U X hz Ja Jl Jq Jp v n H Je a m c Jb I Jc Z Jm Jd Ji;refine⟨v',w',O,r2,r3,λk hk=>?_⟩;have Jg:=Je;rcases Je.2 with⟨rfl,rfl⟩|⟨g,Jj,Jn,rfl,Ju,hg,Jv,Jt,Jr,Jo⟩
 have hx:H=[]:=K1 (by have:=Je.1;simpa using this);subst hx;have⟨v2,w2,Y,g2,_⟩:=run_append_own (P:=P) w w.heap.size t J e i z size bytes U X hz Ja Jl Jq Jp nV 0 [] (ownsRow_nil _ _ _ _) a m c Jb I Jc Z Jm Jd n_;rw[O]at Y;simp only[Result.ok.injEq]at Y;obtain⟨rfl,rfl⟩:=Y;exact .inr (g2.lt k hk).1;by_cases hroom:n+m<=Jj;have Jk:n*i.size+Jb.length<=Jn.size:=by rw[Ja,I,Jr,<-Nat.add_mul];exact Nat.mul_le_mul_right _ hroom
 have h:=run_append_room (P:=P) w t J e i U X g n Jj Jn hg a m c Jb (by rw[Ja];exact I) Jc Z hroom Jk;rw[O]at h;simp only[Result.ok.injEq]at h;obtain⟨rfl,rfl⟩:=h;exact .inl hk;have Jh:∀j u,H[j]? =some u->w.cell? ((⟨g,0,none⟩:Addr).add j)=some u:=Jg.cells (g:=g) rfl;have h:=run_append_grow (P:=P) w t J e i z U X hz ⟨g,0,none⟩ n Jj H (by rw[Ja];exact Jg.1) Jh a m c Jb (by rw[Ja];exact I) Jc o_ o_ (by rw[Jl];exact growslice_fits o_ o_);rw[O]at h;simp only[Result.ok.injEq]at h;obtain⟨rfl,rfl⟩:=h;simp only[ownBlock,If]at hk;exact .inr o_
def dY{ops:Array Oper}{Jf:List Oper}{o:Oper}{a:Act}{Q:Exit->Act->AT->Prop}(Jh:o.guard=none)(s x:Operand)(t:IN)
  (X:o.op=.call {callee:=.builtin .append,args:=#[s,x],argTypes:=#[t,t]})
  (Jb:Nat) (e:IN) (i:TypeInfo) (z:BY) (size bytes:Nat) (J:P.underlying t=some (.slice e)) (hi:P.info? e=some i) (U:i.zero=some z)
  (Jc:i.size=size) (Jk:i.bytes=bytes) (Jl:z.cells.size=size) (Ji:0<size)
  (v:BY) (n:Nat) (H:List BY) (Z:a.eval s=v) (Jg:w.ownsRow Jb e size v n H)
  (ad:Addr) (m c:Nat) (Ja:List BY) (hx:a.eval x=.slice (some ad) m c) (Y:Ja.length=m*size) (Je:∀j u,Ja[j]? =some u->w.cell? (ad.add j)=some u) (O:∀u∈Ja,u.oneCell'=true)
  (hm:n+m<=10000000) (Jj:bytes<=1000) (Jd:Jb<=w.heap.size)
  (h:∀v' w',w'.ownsRow Jb e size v' (n+m) (H++Ja)->w.grownBy w' v.ownBlock->(∀k,v'.ownBlock=some k->v.ownBlock=some k\/w.heap.size<=k)->wpList P ops Q Jf (a.put o.dst v') w'):wpList P ops Q (o::Jf) a w:=by
 refine wpList_plain Jh λK hK=>?_;have⟨v',w',I,h2,h3,h4⟩:=fV (P:=P) (w:=w) Jb t o.type e i z size bytes J hi U Jc Jk Jl Ji v n H Jg ad m c Ja Y Je O hm Jj Jd;unfold Oper.wp execOp;simp only[X,resolve,invoke,builtin,Sem.run_bind,Sem.run_pure,Result.andThen_ok,map_toArray,map_cons,map_nil,Z,hx,I];exact hK _ _ (h v' w' h2 h3 h4)
end
end
section
open Go.RowKit
variable{w w':AT}{g:Nat}{xs:List BY}
def dN(w:AT)(g:Nat)(xs:List BY):Prop:=∀j x,xs[j]? =some x->w.cell? ⟨g,j,none⟩=some x/\w.frozen? ⟨g,j,none⟩=false
theorem dN.set(h:dN w g xs)(i:Nat)(u:Value):dN (w.setCell ⟨g,i,none⟩ u) g (xs.set i u):=by intro j x H;rw[World.frozen?_setCell];by_cases e:i=j;subst e;have I:=(List.getElem?_eq_some_iff.1 H).1;rw[List.length_set]at I;rw[List.getElem?_set_self I]at H;have⟨c,f⟩:=h i xs[i] (List.getElem?_eq_getElem I);refine⟨?_,f⟩;rw[World.cell?_setCell_same _ _ _ c];exact H;rw[List.getElem?_set_ne e]at H;have⟨c,f⟩:=h j x H;refine⟨?_,f⟩;rw[s_ _ _ _ _ (by intro h;simp only[Addr.mk.injEq]at h;omega)];exact c
def dN.keep(h:dN w g xs)(e:w'.heap[g]? =w.heap[g]?):dN w' g xs:=λj x hx=>by have⟨c,f⟩:=h j x hx;exact⟨(c_ (a:=⟨g,j,none⟩) e).trans c,(frozen?_of_block (a:=⟨g,j,none⟩) e).trans f⟩
def dN.below(h:dN w g xs)(hb:Bl w w'):dN w' g xs:=λj x hx=>by have⟨c,f⟩:=h j x hx;have hlt:=b_ c;exact⟨(hb.cell (p:=⟨g,j,none⟩) hlt).trans c,(hb.frozen (p:=⟨g,j,none⟩) hlt).trans f⟩
def dN.tcs{S:DO}(h:dN w g xs)(hl:g<w.heap.size)(ht:aA S w w')(hn:¬S g):dN w' g xs:=h.keep (ht.block g hl hn)
def de(w:AT)(H:Array BY)(t:IN)(O:H.size<=1000):dN (w.alloc (.cells H t)) w.heap.size H.toList:=by
 intro j x J;have h:(w.alloc (.cells H t)).ownsRow w.heap.size t 1 (rV w.heap.size H.size H.size) H.size H.toList:=ownsRow_lit w H H.size n_ (by unfold maxLen;omega) o_;have I:=ownsRow.cells h (g:=w.heap.size) rfl j x J;have e:(⟨w.heap.size,0,none⟩:Addr).add j=⟨w.heap.size,j,none⟩:=by simp[Addr.add];try (intro h;omega)
 rw[e]at I;refine⟨I,?_⟩;rcases h.2 with⟨e,-⟩|⟨g,Jb,Ja,e,h3,h4,h5⟩;simp at e;simp only[Value.slice.injEq,If,Addr.mk.injEq]at e;obtain⟨⟨rfl,-,-⟩,-,-⟩:=e;unfold frozen?;simp only[h4];simp
end
section
open Go.RowKit
namespace Ap
def w32_bd(a:Int): -2147483648<=wrap32 a/\wrap32 a<=2147483647:=by unfold wrap32;omega
def w32_id(a:Int)(h: -2147483648<=a/\a<=2147483647):wrap32 a=a:=by unfold wrap32;omega
def xR(a:Int):wrap32 (wrap64 a)=wrap32 a:= by unfold wrap32 wrap64; omega
def kA(x:Int)(h: -2147483648<=x/\x<=2147483647):BitVec.ofInt 64 x=(BitVec.ofInt 32 x).signExtend 64:=by apply BitVec.eq_of_toInt_eq;rw[BitVec.toInt_signExtend_of_le d_,BitVec.toInt_ofInt,BitVec.toInt_ofInt];rw[Int.bmod_eq_of_le o_ o_,Int.bmod_eq_of_le o_ o_]
def wrap_toNat32(v:BitVec 32):IntKind.i32.wrap (v.toNat:Int)=v.toInt:=by
 have:=v.isLt
 rw[IntKind.wrap_i32,BitVec.toInt_eq_toNat_cond];split <;> omega
def wrap_toNat64(v:BitVec 64):IntKind.i64.wrap (v.toNat:Int)=v.toInt:=by
 have:=v.isLt
 rw[IntKind.wrap_i64,BitVec.toInt_eq_toNat_cond];split <;> omega
def oZ(x y:Int)(hx: -2147483648 ≤ x ∧ x ≤ 2147483647)(hy: -2147483648 ≤ y ∧ y ≤ 2147483647):bits .and .i64 x y=bits .and .i32 x y:= by show IntKind.i64.wrap ((BitVec.ofInt 64 x &&& BitVec.ofInt 64 y).toNat:Int)=IntKind.i32.wrap ((BitVec.ofInt 32 x &&& BitVec.ofInt 32 y).toNat:Int);rw[wrap_toNat32, wrap_toNat64, kA x hx, kA y hy, ← BitVec.signExtend_and, BitVec.toInt_signExtend_of_le d_]
def tv(x y:Int)(hx: -2147483648 ≤ x ∧ x ≤ 2147483647)(hy: -2147483648 ≤ y ∧ y ≤ 2147483647):bits .or .i64 x y=bits .or .i32 x y:= by show IntKind.i64.wrap ((BitVec.ofInt 64 x ||| BitVec.ofInt 64 y).toNat:Int)=IntKind.i32.wrap ((BitVec.ofInt 32 x ||| BitVec.ofInt 32 y).toNat:Int);rw[wrap_toNat32, wrap_toNat64, kA x hx, kA y hy, ← BitVec.signExtend_or, BitVec.toInt_signExtend_of_le d_]
def bits_xor(x y:Int)(h: -2147483648<=x/\x<=2147483647)(H: -2147483648<=y/\y<=2147483647):bits .xor .i64 x y=bits .xor .i32 x y:=by show IntKind.i64.wrap ((BitVec.ofInt 64 x ^^^ BitVec.ofInt 64 y).toNat:Int)=IntKind.i32.wrap ((BitVec.ofInt 32 x ^^^ BitVec.ofInt 32 y).toNat:Int);rw[wrap_toNat32,wrap_toNat64,kA x h,kA y H,<-BitVec.signExtend_xor,BitVec.toInt_signExtend_of_le d_]
def kB(op:BinOp)(x y:Int): -2147483648<=bits op .i32 x y/\bits op .i32 x y<=2147483647:=by unfold bits;dsimp only;rw[IntKind.wrap_i32];omega
def GZ(x y:Int)(H: -2147483648<=x/\x<=2147483647): -2147483648<=x.tdiv y/\x.tdiv y<=2147483648:=by
 have h:(x.tdiv y).natAbs<=x.natAbs:=by rw[Int.natAbs_tdiv];exact Nat.div_le_self _ _
 omega
def Ae(x y:Int)(H: -2147483648<=x/\x<=2147483647): -2147483648<=x.tmod y/\x.tmod y<=2147483647:=by
 have h:(x.tmod y).natAbs<=x.natAbs:=by rw[Int.natAbs_tmod];exact Nat.mod_le _ _
 rcases Int.le_total 0 x with h0|h0
 have:=Int.tmod_nonneg y h0;omega
 obtain⟨z,rfl⟩:∃z,x= -z:=⟨-x,o_⟩;rw[Int.neg_tmod]at*;have:=Int.tmod_nonneg y (show 0<=z by omega);omega
def J0(x y:Int)(H: -2147483648<=x/\x<=2147483647)(I: -2147483648<=y/\y<=2147483647): -4611686018427387904<=x*y/\x*y<=4611686018427387904:=by
 have h:(x*y).natAbs<=2147483648*2147483648:=by rw[Int.natAbs_mul];exact Nat.mul_le_mul o_ o_
 omega
def J1(y:Int):(y.tmod 32+32)%32=y%32:= by
  rcases Int.le_total 0 y with h|h;rw[Int.tmod_eq_emod_of_nonneg h]; omega
  · obtain⟨z, rfl⟩:∃ z, y= -z:= ⟨-y, by omega⟩
    rw[Int.neg_tmod, Int.tmod_eq_emod_of_nonneg o_]; omega
def kC(y:Int): -31<=y.tmod 32/\y.tmod 32<=31:=by
 have h:(y.tmod 32).natAbs<=31:=by rw[Int.natAbs_tmod];have:=Nat.mod_lt y.natAbs (show 0<(32:Int).natAbs by decide);simp at*;omega
 omega
def w64_32(z:Int):wrap64 (wrap32 z)=wrap32 z:=by unfold wrap32 wrap64;omega
def Be(y:Int):y.tmod 32%32=y%32:= by have:= J1 y; omega
def tw(x:Int)(n:Nat)(H: -2147483648<=x/\x<=2147483647):wrap64 (x / 2 ^ n)=x / 2 ^ n:=by have h:=Int.natAbs_ediv_le_natAbs x (2 ^ n);unfold wrap64;omega
def ret_intA{k:IntKind}{a b:Int}(h:a=b):Ending.returned (.int k a)=rW (.int k b):=by rw[h]
end Ap
end
section
open Go.RowKit
def DD(v:Int)(f c:Nat)(J:0<=v)(X:v<=4294967295)(O:c<=31):bits .and .u32 (v / 2 ^ f) ((2 ^ c-1)%4294967296)=v / 2 ^ f%2 ^ c:=by
 obtain⟨V,rfl⟩:=Int.eq_ofNat_of_zero_le J;have h:((V:Int) / 2 ^ f)=((V / 2 ^ f:Nat):Int):=i_;have U:2 ^ c<=2 ^ 31:=Nat.pow_le_pow_right d_ O;have Ja:0<2 ^ c:=Nat.pow_pos d_;have I:(((2:Int) ^ c-1)%4294967296)=((2 ^ c-1:Nat):Int):=by
  have:((2:Int) ^ c)=((2 ^ c:Nat):Int):=by simp
  rw[this];omega
 have H:V / 2 ^ f<4294967296:=Nat.lt_of_le_of_lt (Nat.div_le_self _ _) o_;rw[h,I,u32_and_nat _ _ H o_,Nat.and_two_pow_sub_one_eq_mod];simp
def jT(a b:Nat)(ha:a<4294967296)(hb:b<4294967296):bits .or .u32 (a:Int) (b:Int)=((a ||| b:Nat):Int)/\a ||| b<4294967296:=
 ⟨u32_or_nat a b ha hb,Nat.or_lt_two_pow (n:=32) ha hb⟩
def or_hi(i a b:Nat)(h:b<2 ^ i):2 ^ i*a ||| b=2 ^ i*a+b:=(Nat.two_pow_add_eq_or_of_lt h a).symm
def OP(o f g:Int)(ho:0<=o/\o<=127)(hf:0<=f/\f<=7)(hg:0<=g/\g<=127):
  bits .or .u32 (bits .or .u32 o (f*4096)) (g*33554432) =
   o+f*4096+g*33554432:=by
 obtain⟨O,rfl⟩:=Int.eq_ofNat_of_zero_le ho.1;obtain⟨F,rfl⟩:=Int.eq_ofNat_of_zero_le hf.1;obtain⟨G,rfl⟩:=Int.eq_ofNat_of_zero_le hg.1;have I:((O:Int):Int)=((O:Nat):Int):=by omega
 have J:O<4294967296:=by omega
 have U:((F:Int)*4096:Int)=((2 ^ 12*F:Nat):Int):=by omega
 have H:2 ^ 12*F<4294967296:=by omega
 have X:((G:Int)*33554432:Int)=((2 ^ 25*G:Nat):Int):=by omega
 have Z:2 ^ 25*G<4294967296:=by omega
 rw[I];rw[U];rw[X];have h:=jT (O) (2 ^ 12*F) J H;rw[h.1];have Y:=jT _ (2 ^ 25*G) h.2 Z;rw[Y.1];have e:(((O) ||| (2 ^ 12*F)) ||| (2 ^ 25*G))=(2 ^ 25*G ||| (2 ^ 12*F ||| O)):=by ac_rfl
 rw[e,or_hi 12 F _ o_,or_hi 25 G _ o_];omega
def PE(o f g r s t:Int)(ho:0<=o/\o<=127)(hf:0<=f/\f<=7)(hg:0<=g/\g<=127)(hr:0<=r/\r<=31)(hs:0<=s/\s<=31)(ht:0<=t/\t<=31):
  bits .or .u32 (bits .or .u32 (bits .or .u32 (o+f*4096+g*33554432) (r*128)) (s*32768)) (t*1048576) =
   o+r*128+f*4096+s*32768+t*1048576+g*33554432:=by
 obtain⟨O,rfl⟩:=Int.eq_ofNat_of_zero_le ho.1;obtain⟨F,rfl⟩:=Int.eq_ofNat_of_zero_le hf.1;obtain⟨G,rfl⟩:=Int.eq_ofNat_of_zero_le hg.1;obtain⟨R,rfl⟩:=Int.eq_ofNat_of_zero_le hr.1;obtain⟨S,rfl⟩:=Int.eq_ofNat_of_zero_le hs.1;obtain⟨T,rfl⟩:=Int.eq_ofNat_of_zero_le ht.1;have Z:((O:Int)+(F:Int)*4096+(G:Int)*33554432:Int)=(((2 ^ 25*G ||| (2 ^ 12*F ||| O)):Nat):Int):=by rw[or_hi 12 F _ o_,or_hi 25 G _ o_];omega
 have U:(2 ^ 25*G ||| (2 ^ 12*F ||| O))<4294967296:=by rw[or_hi 12 F _ o_,or_hi 25 G _ o_];omega
 have l1:((R:Int)*128:Int)=((2 ^ 7*R:Nat):Int):=by omega
 have I:2 ^ 7*R<4294967296:=by omega
 have l2:((S:Int)*32768:Int)=((2 ^ 15*S:Nat):Int):=by omega
 have b2:2 ^ 15*S<4294967296:=by omega
 have Y:((T:Int)*1048576:Int)=((2 ^ 20*T:Nat):Int):=by omega
 have J:2 ^ 20*T<4294967296:=by omega
 rw[Z];rw[l1];rw[l2];rw[Y];have h:=jT ((2 ^ 25*G ||| (2 ^ 12*F ||| O))) (2 ^ 7*R) U I;rw[h.1];have H:=jT _ (2 ^ 15*S) h.2 b2;rw[H.1];have X:=jT _ (2 ^ 20*T) H.2 J;rw[X.1];have e:((((2 ^ 25*G ||| (2 ^ 12*F ||| O)) ||| (2 ^ 7*R)) ||| (2 ^ 15*S)) ||| (2 ^ 20*T))=(2 ^ 25*G ||| (2 ^ 20*T ||| (2 ^ 15*S ||| (2 ^ 12*F ||| (2 ^ 7*R ||| O))))):=by ac_rfl
 rw[e,or_hi 7 R _ o_,or_hi 12 F _ o_,or_hi 15 S _ o_,or_hi 20 T _ o_,or_hi 25 G _ o_];omega
def PU(o f r s i:Int)(ho:0<=o/\o<=127)(hf:0<=f/\f<=7)(hr:0<=r/\r<=31)(hs:0<=s/\s<=31)(hi:0<=i/\i<=4095):
  bits .or .u32 (bits .or .u32 (bits .or .u32 (o+f*4096) (r*128)) (s*32768)) (i*1048576) =
   o+r*128+f*4096+s*32768+i*1048576:=by
 obtain⟨O,rfl⟩:=Int.eq_ofNat_of_zero_le ho.1;obtain⟨F,rfl⟩:=Int.eq_ofNat_of_zero_le hf.1;obtain⟨R,rfl⟩:=Int.eq_ofNat_of_zero_le hr.1;obtain⟨S,rfl⟩:=Int.eq_ofNat_of_zero_le hs.1;obtain⟨I,rfl⟩:=Int.eq_ofNat_of_zero_le hi.1;have U:((O:Int)+(F:Int)*4096:Int)=(((2 ^ 12*F ||| O):Nat):Int):=by rw[or_hi 12 F _ o_];omega
 have X:(2 ^ 12*F ||| O)<4294967296:=by rw[or_hi 12 F _ o_];omega
 have Y:((R:Int)*128:Int)=((2 ^ 7*R:Nat):Int):=by omega
 have J:2 ^ 7*R<4294967296:=by omega
 have Z:((S:Int)*32768:Int)=((2 ^ 15*S:Nat):Int):=by omega
 have b2:2 ^ 15*S<4294967296:=by omega
 have l3:((I:Int)*1048576:Int)=((2 ^ 20*I:Nat):Int):=by omega
 have b3:2 ^ 20*I<4294967296:=by omega
 rw[U];rw[Y];rw[Z];rw[l3];have h:=jT ((2 ^ 12*F ||| O)) (2 ^ 7*R) X J;rw[h.1];have H:=jT _ (2 ^ 15*S) h.2 b2;rw[H.1];have a3:=jT _ (2 ^ 20*I) H.2 b3;rw[a3.1];have e:((((2 ^ 12*F ||| O) ||| (2 ^ 7*R)) ||| (2 ^ 15*S)) ||| (2 ^ 20*I))=(2 ^ 20*I ||| (2 ^ 15*S ||| (2 ^ 12*F ||| (2 ^ 7*R ||| O)))):=by ac_rfl
 rw[e,or_hi 7 R _ o_,or_hi 12 F _ o_,or_hi 15 S _ o_,or_hi 20 I _ o_];omega
def PV(o f s t i j:Int)(ho:0<=o/\o<=127)(hf:0<=f/\f<=7)(hs:0<=s/\s<=31)(ht:0<=t/\t<=31)(hi:0<=i/\i<=31)(hj:0<=j/\j<=127):
  bits .or .u32 (bits .or .u32 (bits .or .u32 (bits .or .u32 (o+f*4096) (s*32768)) (t*1048576)) (i*128)) (j*33554432) =
   o+i*128+f*4096+s*32768+t*1048576+j*33554432:=by
 obtain⟨O,rfl⟩:=Int.eq_ofNat_of_zero_le ho.1;obtain⟨F,rfl⟩:=Int.eq_ofNat_of_zero_le hf.1;obtain⟨S,rfl⟩:=Int.eq_ofNat_of_zero_le hs.1;obtain⟨T,rfl⟩:=Int.eq_ofNat_of_zero_le ht.1;obtain⟨I,rfl⟩:=Int.eq_ofNat_of_zero_le hi.1;obtain⟨J,rfl⟩:=Int.eq_ofNat_of_zero_le hj.1;have l0:((O:Int)+(F:Int)*4096:Int)=(((2 ^ 12*F ||| O):Nat):Int):=by rw[or_hi 12 F _ o_];omega
 have Z:(2 ^ 12*F ||| O)<4294967296:=by rw[or_hi 12 F _ o_];omega
 have l1:((S:Int)*32768:Int)=((2 ^ 15*S:Nat):Int):=by omega
 have X:2 ^ 15*S<4294967296:=by omega
 have l2:((T:Int)*1048576:Int)=((2 ^ 20*T:Nat):Int):=by omega
 have b2:2 ^ 20*T<4294967296:=by omega
 have l3:((I:Int)*128:Int)=((2 ^ 7*I:Nat):Int):=by omega
 have Y:2 ^ 7*I<4294967296:=by omega
 have l4:((J:Int)*33554432:Int)=((2 ^ 25*J:Nat):Int):=by omega
 have b4:2 ^ 25*J<4294967296:=by omega
 rw[l0];rw[l1];rw[l2];rw[l3];rw[l4];have H:=jT ((2 ^ 12*F ||| O)) (2 ^ 15*S) Z X;rw[H.1];have U:=jT _ (2 ^ 20*T) H.2 b2;rw[U.1];have h:=jT _ (2 ^ 7*I) U.2 Y;rw[h.1];have a4:=jT _ (2 ^ 25*J) h.2 b4;rw[a4.1];have e:(((((2 ^ 12*F ||| O) ||| (2 ^ 15*S)) ||| (2 ^ 20*T)) ||| (2 ^ 7*I)) ||| (2 ^ 25*J))=(2 ^ 25*J ||| (2 ^ 20*T ||| (2 ^ 15*S ||| (2 ^ 12*F ||| (2 ^ 7*I ||| O))))):=by ac_rfl
 rw[e,or_hi 7 I _ o_,or_hi 12 F _ o_,or_hi 15 S _ o_,or_hi 20 T _ o_,or_hi 25 J _ o_];omega
def OQ(i j k l:Int)(hi:0<=i/\i<=1)(hj:0<=j/\j<=15)(hk:0<=k/\k<=63)(hl:0<=l/\l<=1):
  bits .or .u32 (bits .or .u32 (bits .or .u32 (i*128) (j*256)) (k*33554432)) (l*2147483648) =
   i*128+j*256+k*33554432+l*2147483648:=by
 obtain⟨I,rfl⟩:=Int.eq_ofNat_of_zero_le hi.1;obtain⟨J,rfl⟩:=Int.eq_ofNat_of_zero_le hj.1;obtain⟨K,rfl⟩:=Int.eq_ofNat_of_zero_le hk.1;obtain⟨L,rfl⟩:=Int.eq_ofNat_of_zero_le hl.1;have U:((I:Int)*128:Int)=((2 ^ 7*I:Nat):Int):=by omega
 have X:2 ^ 7*I<4294967296:=by omega
 have Y:((J:Int)*256:Int)=((2 ^ 8*J:Nat):Int):=by omega
 have O:2 ^ 8*J<4294967296:=by omega
 have Z:((K:Int)*33554432:Int)=((2 ^ 25*K:Nat):Int):=by omega
 have b2:2 ^ 25*K<4294967296:=by omega
 have l3:((L:Int)*2147483648:Int)=((2 ^ 31*L:Nat):Int):=by omega
 have b3:2 ^ 31*L<4294967296:=by omega
 rw[U];rw[Y];rw[Z];rw[l3];have h:=jT (2 ^ 7*I) (2 ^ 8*J) X O;rw[h.1];have H:=jT _ (2 ^ 25*K) h.2 b2;rw[H.1];have a3:=jT _ (2 ^ 31*L) H.2 b3;rw[a3.1];have e:((((2 ^ 7*I) ||| (2 ^ 8*J)) ||| (2 ^ 25*K)) ||| (2 ^ 31*L))=(2 ^ 31*L ||| (2 ^ 25*K ||| (2 ^ 8*J ||| 2 ^ 7*I))):=by ac_rfl
 rw[e,or_hi 8 J _ o_,or_hi 25 K _ o_,or_hi 31 L _ o_];omega
def PW(o f s t i j k l:Int)(ho:0<=o/\o<=127)(hf:0<=f/\f<=7)(hs:0<=s/\s<=31)(ht:0<=t/\t<=31)(hi:0<=i/\i<=1)(hj:0<=j/\j<=15)(hk:0<=k/\k<=63)(hl:0<=l/\l<=1):
  bits .or .u32 (bits .or .u32 (bits .or .u32 (o+f*4096) (s*32768)) (t*1048576)) (i*128+j*256+k*33554432+l*2147483648) =
   o+i*128+j*256+f*4096+s*32768+t*1048576+k*33554432+l*2147483648:=by
 obtain⟨O,rfl⟩:=Int.eq_ofNat_of_zero_le ho.1;obtain⟨F,rfl⟩:=Int.eq_ofNat_of_zero_le hf.1;obtain⟨S,rfl⟩:=Int.eq_ofNat_of_zero_le hs.1;obtain⟨T,rfl⟩:=Int.eq_ofNat_of_zero_le ht.1;obtain⟨I,rfl⟩:=Int.eq_ofNat_of_zero_le hi.1;obtain⟨J,rfl⟩:=Int.eq_ofNat_of_zero_le hj.1;obtain⟨K,rfl⟩:=Int.eq_ofNat_of_zero_le hk.1;obtain⟨L,rfl⟩:=Int.eq_ofNat_of_zero_le hl.1;have l0:((O:Int)+(F:Int)*4096:Int)=(((2 ^ 12*F ||| O):Nat):Int):=by rw[or_hi 12 F _ o_];omega
 have Y:(2 ^ 12*F ||| O)<4294967296:=by rw[or_hi 12 F _ o_];omega
 have l1:((S:Int)*32768:Int)=((2 ^ 15*S:Nat):Int):=by omega
 have U:2 ^ 15*S<4294967296:=by omega
 have l2:((T:Int)*1048576:Int)=((2 ^ 20*T:Nat):Int):=by omega
 have b2:2 ^ 20*T<4294967296:=by omega
 have l3:((I:Int)*128+(J:Int)*256+(K:Int)*33554432+(L:Int)*2147483648:Int)=(((2 ^ 31*L ||| (2 ^ 25*K ||| (2 ^ 8*J ||| 2 ^ 7*I))):Nat):Int):=by rw[or_hi 8 J _ o_,or_hi 25 K _ o_,or_hi 31 L _ o_];omega
 have X:(2 ^ 31*L ||| (2 ^ 25*K ||| (2 ^ 8*J ||| 2 ^ 7*I)))<4294967296:=by rw[or_hi 8 J _ o_,or_hi 25 K _ o_,or_hi 31 L _ o_];omega
 rw[l0];rw[l1];rw[l2];rw[l3];have h:=jT ((2 ^ 12*F ||| O)) (2 ^ 15*S) Y U;rw[h.1];have H:=jT _ (2 ^ 20*T) h.2 b2;rw[H.1];have Z:=jT _ ((2 ^ 31*L ||| (2 ^ 25*K ||| (2 ^ 8*J ||| 2 ^ 7*I)))) H.2 X;rw[Z.1];have e:((((2 ^ 12*F ||| O) ||| (2 ^ 15*S)) ||| (2 ^ 20*T)) ||| (2 ^ 31*L ||| (2 ^ 25*K ||| (2 ^ 8*J ||| 2 ^ 7*I))))=(2 ^ 31*L ||| (2 ^ 25*K ||| (2 ^ 20*T ||| (2 ^ 15*S ||| (2 ^ 12*F ||| (2 ^ 8*J ||| (2 ^ 7*I ||| O))))))):=by ac_rfl
 rw[e,or_hi 7 I _ o_,or_hi 8 J _ o_,or_hi 12 F _ o_,or_hi 15 S _ o_,or_hi 20 T _ o_,or_hi 25 K _ o_,or_hi 31 L _ o_];omega
def PX(o r i:Int)(ho:0<=o/\o<=127)(hr:0<=r/\r<=31)(hi:0<=i/\i<=1048575):
  bits .or .u32 (bits .or .u32 o (r*128)) (i*4096) =
   o+r*128+i*4096:=by
 obtain⟨O,rfl⟩:=Int.eq_ofNat_of_zero_le ho.1;obtain⟨R,rfl⟩:=Int.eq_ofNat_of_zero_le hr.1;obtain⟨I,rfl⟩:=Int.eq_ofNat_of_zero_le hi.1;have J:((O:Int):Int)=((O:Nat):Int):=by omega
 have U:O<4294967296:=by omega
 have X:((R:Int)*128:Int)=((2 ^ 7*R:Nat):Int):=by omega
 have H:2 ^ 7*R<4294967296:=by omega
 have Y:((I:Int)*4096:Int)=((2 ^ 12*I:Nat):Int):=by omega
 have b2:2 ^ 12*I<4294967296:=by omega
 rw[J];rw[X];rw[Y];have h:=jT (O) (2 ^ 7*R) U H;rw[h.1];have Z:=jT _ (2 ^ 12*I) h.2 b2;rw[Z.1];have e:(((O) ||| (2 ^ 7*R)) ||| (2 ^ 12*I))=(2 ^ 12*I ||| (2 ^ 7*R ||| O)):=by ac_rfl
 rw[e,or_hi 7 R _ o_,or_hi 12 I _ o_];omega
def OR(i j k l:Int)(hi:0<=i/\i<=255)(hj:0<=j/\j<=1)(hk:0<=k/\k<=1023)(hl:0<=l/\l<=1):
  bits .or .u32 (bits .or .u32 (bits .or .u32 (i*4096) (j*1048576)) (k*2097152)) (l*2147483648) =
   i*4096+j*1048576+k*2097152+l*2147483648:=by
 obtain⟨I,rfl⟩:=Int.eq_ofNat_of_zero_le hi.1;obtain⟨J,rfl⟩:=Int.eq_ofNat_of_zero_le hj.1;obtain⟨K,rfl⟩:=Int.eq_ofNat_of_zero_le hk.1;obtain⟨L,rfl⟩:=Int.eq_ofNat_of_zero_le hl.1;have U:((I:Int)*4096:Int)=((2 ^ 12*I:Nat):Int):=by omega
 have X:2 ^ 12*I<4294967296:=by omega
 have Y:((J:Int)*1048576:Int)=((2 ^ 20*J:Nat):Int):=by omega
 have O:2 ^ 20*J<4294967296:=by omega
 have Z:((K:Int)*2097152:Int)=((2 ^ 21*K:Nat):Int):=by omega
 have b2:2 ^ 21*K<4294967296:=by omega
 have l3:((L:Int)*2147483648:Int)=((2 ^ 31*L:Nat):Int):=by omega
 have b3:2 ^ 31*L<4294967296:=by omega
 rw[U];rw[Y];rw[Z];rw[l3];have h:=jT (2 ^ 12*I) (2 ^ 20*J) X O;rw[h.1];have H:=jT _ (2 ^ 21*K) h.2 b2;rw[H.1];have a3:=jT _ (2 ^ 31*L) H.2 b3;rw[a3.1];have e:((((2 ^ 12*I) ||| (2 ^ 20*J)) ||| (2 ^ 21*K)) ||| (2 ^ 31*L))=(2 ^ 31*L ||| (2 ^ 21*K ||| (2 ^ 20*J ||| 2 ^ 12*I))):=by ac_rfl
 rw[e,or_hi 20 J _ o_,or_hi 21 K _ o_,or_hi 31 L _ o_];omega
def PY(o r i j k l:Int)(ho:0<=o/\o<=127)(hr:0<=r/\r<=31)(hi:0<=i/\i<=255)(hj:0<=j/\j<=1)(hk:0<=k/\k<=1023)(hl:0<=l/\l<=1):
  bits .or .u32 (bits .or .u32 o (r*128)) (i*4096+j*1048576+k*2097152+l*2147483648) =
   o+r*128+i*4096+j*1048576+k*2097152+l*2147483648:=by
 obtain⟨O,rfl⟩:=Int.eq_ofNat_of_zero_le ho.1;obtain⟨R,rfl⟩:=Int.eq_ofNat_of_zero_le hr.1;obtain⟨I,rfl⟩:=Int.eq_ofNat_of_zero_le hi.1;obtain⟨J,rfl⟩:=Int.eq_ofNat_of_zero_le hj.1;obtain⟨K,rfl⟩:=Int.eq_ofNat_of_zero_le hk.1;obtain⟨L,rfl⟩:=Int.eq_ofNat_of_zero_le hl.1;have U:((O:Int):Int)=((O:Nat):Int):=by omega
 have X:O<4294967296:=by omega
 have Y:((R:Int)*128:Int)=((2 ^ 7*R:Nat):Int):=by omega
 have H:2 ^ 7*R<4294967296:=by omega
 have Z:((I:Int)*4096+(J:Int)*1048576+(K:Int)*2097152+(L:Int)*2147483648:Int)=(((2 ^ 31*L ||| (2 ^ 21*K ||| (2 ^ 20*J ||| 2 ^ 12*I))):Nat):Int):=by rw[or_hi 20 J _ o_,or_hi 21 K _ o_,or_hi 31 L _ o_];omega
 have b2:(2 ^ 31*L ||| (2 ^ 21*K ||| (2 ^ 20*J ||| 2 ^ 12*I)))<4294967296:=by rw[or_hi 20 J _ o_,or_hi 21 K _ o_,or_hi 31 L _ o_];omega
 rw[U];rw[Y];rw[Z];have h:=jT (O) (2 ^ 7*R) X H;rw[h.1];have a2:=jT _ ((2 ^ 31*L ||| (2 ^ 21*K ||| (2 ^ 20*J ||| 2 ^ 12*I)))) h.2 b2;rw[a2.1];have e:(((O) ||| (2 ^ 7*R)) ||| (2 ^ 31*L ||| (2 ^ 21*K ||| (2 ^ 20*J ||| 2 ^ 12*I))))=(2 ^ 31*L ||| (2 ^ 21*K ||| (2 ^ 20*J ||| (2 ^ 12*I ||| (2 ^ 7*R ||| O))))):=by ac_rfl
 rw[e,or_hi 7 R _ o_,or_hi 12 I _ o_,or_hi 20 J _ o_,or_hi 21 K _ o_,or_hi 31 L _ o_];omega
def OS(i j:Int)(Z:0<=i/\i<=31)(Y:0<=j/\j<=127):
  bits .or .u32 i (j*32) =
   i+j*32:=by
 obtain⟨I,rfl⟩:=Int.eq_ofNat_of_zero_le Z.1;obtain⟨J,rfl⟩:=Int.eq_ofNat_of_zero_le Y.1;have H:((I:Int):Int)=((I:Nat):Int):=by omega
 have O:I<4294967296:=by omega
 have X:((J:Int)*32:Int)=((2 ^ 5*J:Nat):Int):=by omega
 have h:2 ^ 5*J<4294967296:=by omega
 rw[H];rw[X];have U:=jT (I) (2 ^ 5*J) O h;rw[U.1];have e:((I) ||| (2 ^ 5*J))=(2 ^ 5*J ||| I):=by ac_rfl
 rw[e,or_hi 5 J _ o_];omega
def OT(i j k l:Int)(hi:0<=i/\i<=1)(hj:0<=j/\j<=15)(hk:0<=k/\k<=63)(hl:0<=l/\l<=1):
  bits .or .u32 (bits .or .u32 (bits .or .u32 (i*2048) (j*2)) (k*32)) (l*4096) =
   j*2+k*32+i*2048+l*4096:=by
 obtain⟨I,rfl⟩:=Int.eq_ofNat_of_zero_le hi.1;obtain⟨J,rfl⟩:=Int.eq_ofNat_of_zero_le hj.1;obtain⟨K,rfl⟩:=Int.eq_ofNat_of_zero_le hk.1;obtain⟨L,rfl⟩:=Int.eq_ofNat_of_zero_le hl.1;have U:((I:Int)*2048:Int)=((2 ^ 11*I:Nat):Int):=by omega
 have X:2 ^ 11*I<4294967296:=by omega
 have Y:((J:Int)*2:Int)=((2 ^ 1*J:Nat):Int):=by omega
 have O:2 ^ 1*J<4294967296:=by omega
 have Z:((K:Int)*32:Int)=((2 ^ 5*K:Nat):Int):=by omega
 have b2:2 ^ 5*K<4294967296:=by omega
 have l3:((L:Int)*4096:Int)=((2 ^ 12*L:Nat):Int):=by omega
 have b3:2 ^ 12*L<4294967296:=by omega
 rw[U];rw[Y];rw[Z];rw[l3];have h:=jT (2 ^ 11*I) (2 ^ 1*J) X O;rw[h.1];have H:=jT _ (2 ^ 5*K) h.2 b2;rw[H.1];have a3:=jT _ (2 ^ 12*L) H.2 b3;rw[a3.1];have e:((((2 ^ 11*I) ||| (2 ^ 1*J)) ||| (2 ^ 5*K)) ||| (2 ^ 12*L))=(2 ^ 12*L ||| (2 ^ 11*I ||| (2 ^ 5*K ||| 2 ^ 1*J))):=by ac_rfl
 rw[e,or_hi 5 K _ o_,or_hi 11 I _ o_,or_hi 12 L _ o_];omega
def OU(i j k l:Int)(hi:0<=i/\i<=255)(hj:0<=j/\j<=1)(hk:0<=k/\k<=1023)(hl:0<=l/\l<=1):
  bits .or .u32 (bits .or .u32 (bits .or .u32 (i*4096) (j*2048)) (k*2)) (l*1048576) =
   k*2+j*2048+i*4096+l*1048576:=by
 obtain⟨I,rfl⟩:=Int.eq_ofNat_of_zero_le hi.1;obtain⟨J,rfl⟩:=Int.eq_ofNat_of_zero_le hj.1;obtain⟨K,rfl⟩:=Int.eq_ofNat_of_zero_le hk.1;obtain⟨L,rfl⟩:=Int.eq_ofNat_of_zero_le hl.1;have U:((I:Int)*4096:Int)=((2 ^ 12*I:Nat):Int):=by omega
 have X:2 ^ 12*I<4294967296:=by omega
 have Y:((J:Int)*2048:Int)=((2 ^ 11*J:Nat):Int):=by omega
 have O:2 ^ 11*J<4294967296:=by omega
 have Z:((K:Int)*2:Int)=((2 ^ 1*K:Nat):Int):=by omega
 have b2:2 ^ 1*K<4294967296:=by omega
 have l3:((L:Int)*1048576:Int)=((2 ^ 20*L:Nat):Int):=by omega
 have b3:2 ^ 20*L<4294967296:=by omega
 rw[U];rw[Y];rw[Z];rw[l3];have h:=jT (2 ^ 12*I) (2 ^ 11*J) X O;rw[h.1];have H:=jT _ (2 ^ 1*K) h.2 b2;rw[H.1];have a3:=jT _ (2 ^ 20*L) H.2 b3;rw[a3.1];have e:((((2 ^ 12*I) ||| (2 ^ 11*J)) ||| (2 ^ 1*K)) ||| (2 ^ 20*L))=(2 ^ 20*L ||| (2 ^ 12*I ||| (2 ^ 11*J ||| 2 ^ 1*K))):=by ac_rfl
 rw[e,or_hi 11 J _ o_,or_hi 12 I _ o_,or_hi 20 L _ o_];omega
end
section
variable{l:List Nd}
def defc:List Nd->Int
 | []=>1
 | n::r=>defc r+arity n-1
def kD(l:List Nd):Prop:=∀n∈l,aD n=true
theorem nJ(l:List Nd)(J:kD l)(k:Int):wholeTo l k=some 1↔defc l=k/\∀j,1<=j->j<=l.length->1<=defc (l.drop j):=by
 induction l generalizing k with
 | nil=>simp only[wholeTo,If,defc,l_n,drop_nil];constructor;rintro rfl;exact⟨rfl,λj _ _=>Int.le_refl _⟩;rintro⟨rfl,_⟩;rfl
 | cons n r ih=>
  have O:aD n=true:=J n i_;have Ja:=ih (λm hm=>J m (by simp[hm]));simp only[wholeTo,O,true_and];by_cases ha:arity n<=k;rw[if_pos ha,Ja,defc];constructor;rintro⟨I,h2⟩;refine⟨o_,λj hj1 hj2=>?_⟩;obtain⟨H,rfl⟩:∃H,j=H+1:=⟨j-1,o_⟩;rw[drop_succ_cons];rcases Nat.eq_zero_or_pos H with rfl|hp;rw[drop_zero];omega;exact h2 H hp (D4 hj2);rintro⟨I,h2⟩;refine⟨o_,λj hj1 hj2=>?_⟩;have:=h2 (j+1) o_ (D4 hj2);rwa[drop_succ_cons]at this;rw[if_neg ha];constructor;intro h;cases h;rintro⟨I,h2⟩;exfalso
  have:=h2 1 n_ i_
  simp only[drop_succ_cons,drop_zero]at this;simp only[defc]at I;omega
theorem lK(l:List Nd)(k q:Int)(h:wholeTo l k=some q):kD l:=by
 induction l generalizing k with
 | nil=>intro n hn;cases hn
 | cons m r ih=>simp only[wholeTo]at h;split at h;rename_i hm;intro n hn;rcases mem_cons.1 hn with rfl|hn;exact hm.1;exact ih _ h n hn;cases h
def o6(l:List Nd):oneB l=true↔kD l/\defc l=0/\∀j,1<=j->j<=l.length->1<=defc (l.drop j):=by
 constructor;intro h;have I:wholeTo l 0=some 1:=by simpa[oneB]using h
 have H:=lK l 0 1 I;exact⟨H,(nJ l H 0).1 I⟩;rintro⟨H,h⟩;have:=(nJ l H 0).2 h;simp[oneB,this]
end
def lastKind(e:List Nd):Int:=match e[e.length-1]? with|some n=>n.kd|none=>0
def bB(s:St):Bool:=
 decide (1<=s.kd/\s.kd<=8)&&(if s.kd<=3 then cU s.nm else s.nm.toList == [])&&oneB s.e&&(if s.kd=3 then oneB s.f else s.f.length == 0)&&(decide (s.kd≠8) || lastKind s.e == 4)&&(decide (s.kd=4\/s.kd=5) || s.th == 0)&&(decide (s.kd=4) || s.el == 0)
theorem o7{l:List Nd}(h:oneB l=true):0<l.length:=by
 cases l with
 | nil=>simp[oneB,wholeTo]at h
 | cons n r=>simp
section
variable{e:List Nd}
def Bf(ns:List Nd)(k i:Nat):Prop:=i<k/\defc ((ns.take k).drop i)=0/\∀j,i<j->j<=k->1<=defc ((ns.take k).drop j)
theorem xS(l:List Nd)(k q:Int)(h:wholeTo l k=some q):defc l=1+k-q:=by
 induction l generalizing k with
 | nil=>simp only[wholeTo,If]at h;subst h;simp[defc]
 | cons n r ih=>
  simp only[wholeTo]at h;split at h
  have:=ih _ h
  simp only[defc];omega;cases h
theorem fW(l:List Nd)(k q:Int)(h:wholeTo l k=some q)(j:Nat):∃p,wholeTo (l.take j) k=some p/\wholeTo (l.drop j) p=some q:=by
 rw[<-take_append_drop j l,wholeTo_append]at h;cases e:wholeTo (l.take j) k with
 | none=>rw[e]at h;cases h
 | some p=>rw[e]at h;exact⟨p,rfl,h⟩
def Bg(l:List Nd)(q:Int)(J:0<l.length)(h:wholeTo l 0=some q):1<=q:=by obtain⟨m,H⟩:∃m,l.length=m+1:=⟨l.length-1,o_⟩;have⟨p,I,h2⟩:=fW l 0 q h m;have:=fE l m p o_ I;rw[<-H,take_length,h]at this;split at this;rename_i hh;simp only[If]at this;omega;cases this
def Bh(l:List Nd)(p:Int)(h:wholeTo l 0=some p)(m:Nat)(O:l.length=m+1)(i:Nat)(J:i<l.length)(a:Int)(I:wholeTo (l.take i) 0=some a):∃c,wholeTo (l.take (i+1)) 0=some c/\c<=a+1:=by
 have⟨c,H,h2⟩:=fW l 0 p h (i+1);have:=fE l i a J I;rw[H]at this;split at this
 rename_i hh;have:=dC hh.1;simp only[If]at*;exact⟨c,H,o_⟩;cases this
theorem Bi(l:List Nd)(c:Int)(Y:0<=c)(h:wholeTo l 0=some (c+1)):∃i,i<l.length/\wholeTo (l.take i) 0=some c/\∀j,i<j->j<=l.length->∃p,wholeTo (l.take j) 0=some p/\c+1<=p:=by
 have X:0<l.length:=by
  cases l with
  | nil=>simp only[wholeTo,If]at h;omega
  | cons=>simp
 obtain⟨m,O⟩:∃m,l.length=m+1:=⟨l.length-1,o_⟩;have Ja:∀d,d<=l.length->(∃i,l.length-d<=i/\i<l.length/\wholeTo (l.take i) 0=some c/\∀j,i<j->j<=l.length->∃p,wholeTo (l.take j) 0=some p/\c+1<=p)\/(∀j,l.length-d<=j->j<=l.length->∃p,wholeTo (l.take j) 0=some p/\c+1<=p):=by
  intro d;induction d with
  | zero=>intro _;refine .inr λj H h2=>?_;obtain rfl:j=l.length:=(by omega);rw[take_length];exact⟨_,h,Int.le_refl _⟩
  | succ d ih=>
   intro U;rcases ih o_ with⟨i,H,h2⟩|hall;exact .inl ⟨i,o_,h2⟩
   have⟨a,J,_⟩:=fW l 0 _ h (l.length-(d+1));have⟨c',H,h2⟩:=Bh l _ h m O (l.length-(d+1)) o_ a J;have⟨p,I,Jb⟩:=hall (l.length-(d+1)+1) o_ o_;rw[H]at I;simp only[If]at I;by_cases e:a=c
   subst e;exact .inl ⟨_,n_,o_,J,λj h3 h4=>hall j o_ h4⟩;refine .inr λj h3 h4=>?_;by_cases e2:j=l.length-(d+1)
   subst e2;exact⟨a,J,o_⟩;exact hall j o_ h4
 rcases Ja l.length n_ with⟨i,_,H⟩|hall;exact⟨i,H⟩
 have⟨p,I,Jb⟩:=hall 0 o_ o_;simp only[take_zero,wholeTo,If]at I;omega
def Bj(e:List Nd)(k:Nat)(c:Int)(hk:k<=e.length)(Y:0<=c)(h:wholeTo (e.take k) 0=some (c+1)):
  ∃i,Bf e k i/\wholeTo (e.take i) 0=some c/\oneB ((e.take k).drop i)=true:=by
 have Ja:(e.take k).length=k:=by simp;omega
 have⟨i,X,h2,h3⟩:=Bi (e.take k) c Y h;rw[Ja]at X h3;have U:∀j,j<=k->∀p,wholeTo ((e.take k).take j) 0=some p->defc ((e.take k).drop j)=p-c:=by intro j Z p J;have⟨p',I,H⟩:=fW (e.take k) 0 _ h j;rw[J]at I;simp only[If]at I;subst I;have:=xS _ _ _ H;omega
 have O:Bf e k i:=by
  refine⟨X,?_,λj I H=>?_⟩;rw[U i o_ c h2];omega
  have⟨p,J,Jb⟩:=h3 j I H;rw[U j H p J];omega
 refine⟨i,O,?_,?_⟩;rw[take_take,Nat.min_eq_left o_]at h2;exact h2;rw[o6];refine⟨λn hn=>lK _ _ _ h n (K6 hn),O.2.1,λj I H=>?_⟩;rw[drop_drop];simp only[length_drop,Ja]at H;exact O.2.2 (i+j) o_ o_
def PZ:Nd:=⟨1,0,⟨#[]⟩⟩
def d6(e:List Nd):Nd:=e.getD (e.length-1) PZ
structure Cut (e:List Nd) (A:Nat) (b:Nat->Nat):Prop where
 len:0<e.length
 ar:arity (d6 e)=A
 good:kD e
 last:b A=e.length-1
 first:b 0=0
 beg:∀i,i<A->Bf e (b (i+1)) (b i)
def mE(e:List Nd)(b:Nat->Nat)(i:Nat):List Nd:=(e.take (b (i+1))).drop (b i)
theorem Bm(e:List Nd)(X:0<e.length)(A:Nat):∀k,k<=e.length->wholeTo (e.take k) 0=some (A:Int)->∃b:Nat->Nat,b A=k/\b 0=0/\∀i,i<A->Bf e (b (i+1)) (b i)/\oneB (mE e b i)=true:=by
 induction A with
 | zero=>
  intro k H h;refine⟨λ_=>0,?_,rfl,λi hi=>absurd hi o_⟩;rcases Nat.eq_zero_or_pos k with rfl|hp;rfl
  have:=Bg (e.take k) _ Do h
  omega
 | succ A ih=>
  intro k H h;have⟨i,I,h2,h3⟩:=Bj e k A H o_ (by rw[h];rfl);have⟨b,O,J,U⟩:=ih i (Ft I.1) h2;refine⟨λj=>if j=A+1 then k else b j,i_,by simp[J],λj hj=>?_⟩;by_cases e1:j=A;subst e1;simp only[mE,if_true,Nat.succ_ne_self,if_neg (show ¬j=j+1 by omega),O];exact⟨I,h3⟩
  have:=U j o_
  simp only[mE,if_neg (show ¬j=A+1 by omega),if_neg (show ¬j+1=A+1 by omega)];exact this
def i8(e:List Nd)(h:0<e.length):d6 e=e[e.length-1]'(by omega):=by simp[d6,List.getD,K3 (show e.length-1<e.length by omega)]
theorem lL(h:oneB e=true):0<e.length:=by
 cases e with
 | nil=>simp[oneB,wholeTo]at h
 | cons=>simp
def gS(h:oneB e=true):kD e:=((o6 e).1 h).1
def DE(h:oneB e=true):aD (d6 e)=true:=by rw[i8 e (lL h)];exact gS h _ (g_ _)
def uN(h:oneB e=true):∃A b,Cut e A b/\∀i,i<A->oneB (mE e b i)=true:=by
 have H:=lL h;have J:wholeTo e 0=some 1:=by simpa[oneB]using h
 have⟨q,O,h2⟩:=fW e 0 1 J (e.length-1);have I:=fE e (e.length-1) q o_ O;rw[show e.length-1+1=e.length by omega,take_length,J]at I;split at I
 simp only[If]at I;have Z:=dC (DE h);rw[i8 e H]at Z;obtain⟨A,hA⟩:∃A:Nat,q=A:=⟨q.toNat,o_⟩;subst hA;have⟨b,Y,X,U⟩:=Bm e H A (e.length-1) o_ O;exact⟨A,b,⟨H,by rw[i8 e H];omega,gS h,Y,X,λi hi=>(U i hi).1⟩,λi hi=>(U i hi).2⟩;cases I
end
def oq:Nat->List St->Bool
 | _,[]=>true
 | 0,_::_=>false
 | n+1,s::r=>decide (0<=s.th/\s.th<=r.length/\0<=s.el/\s.el<=r.length-s.th)&&(oq n (r.take s.th.toNat)&&(oq n ((r.take (s.th.toNat+s.el.toNat)).drop s.th.toNat)&&oq n (r.drop (s.th.toNat+s.el.toNat))))
def cD(l:List St):Bool:=oq l.length l
theorem o8(n m:Nat)(l:List St)(H:l.length<=n)(h:l.length<=m):oq n l=oq m l:=by
 induction n generalizing m l with
 | zero=>
  have:l=[]:=K1 o_
  subst this;cases m <;> rfl
 | succ n ih=>
  cases l with
  | nil=>cases m <;> rfl
  | cons s r=>
   cases m with
   | zero=>simp at h
   | succ m=>simp only[l_c]at H h;simp only[oq];rw[ih m (r.take s.th.toNat) Do Do,ih m ((r.take (s.th.toNat+s.el.toNat)).drop s.th.toNat) Do Do,ih m (r.drop (s.th.toNat+s.el.toNat)) Do Do]
def fitB_cons(s:St)(r:List St):cD (s::r)=(decide (0<=s.th/\s.th<=r.length/\0<=s.el/\s.el<=r.length-s.th)&&(cD (r.take s.th.toNat)&&(cD ((r.take (s.th.toNat+s.el.toNat)).drop s.th.toNat)&&cD (r.drop (s.th.toNat+s.el.toNat))))):=by have h:cD (s::r)=oq (r.length+1) (s::r):=rfl;rw[h];simp only[oq];rw[o8 r.length _ (r.take s.th.toNat) Do n_,o8 r.length _ ((r.take (s.th.toNat+s.el.toNat)).drop s.th.toNat) Do n_,o8 r.length _ (r.drop (s.th.toNat+s.el.toNat)) i_ n_];rfl
section
variable{e:List Nd}{A:Nat}{b:Nat->Nat}
theorem Cut.le(h:Cut e A b):∀d,d<=A->b (A-d)<=e.length-1:=by
 intro d;induction d with
 | zero=>intro _;rw[Nat.sub_zero,h.last];exact n_
 | succ d ih=>intro H;have:=ih o_;have h2:=(h.beg (A-(d+1)) o_).1;rw[show A-(d+1)+1=A-d by omega]at h2;omega
def Cut.le'(h:Cut e A b)(i:Nat)(H:i<=A):b i<=e.length-1:=by
 have:=h.le (A-i) o_
 rwa[show A-(A-i)=i by omega]at this
def Cut.kid_len(h:Cut e A b)(i:Nat)(H:i<A):(mE e b i).length=b (i+1)-b i:=by
 have:=h.le' (i+1) o_
 simp[mE];omega
def Cut.kid_lt(h:Cut e A b)(i:Nat)(H:i<A):(mE e b i).length<e.length:=by
 rw[h.kid_len i H];have:=h.le' (i+1) o_
 have:=h.len
 omega
def Cut.root_good(h:Cut e A b):aD (d6 e)=true:=by rw[i8 e h.len];exact h.good _ (g_ _)
end
section
variable{l:List St}{k:Nat}
def aU:List St->Nat
 | []=>0
 | s::r=>s.e.length+s.f.length+aU r
theorem gT(a b:List St):aU (a++b)=aU a+aU b:=by
 induction a with
 | nil=>simp[aU]
 | cons s r ih=>simp[aU,ih];omega
def tz(l:List St)(k:Nat)(h:k<l.length):aU (l.take (k+1))=aU (l.take k)+l[k].e.length+l[k].f.length:=by rw[bP l k h,gT];simp[aU];omega
def xT(l:List St)(k:Nat):aU (l.take k)<=aU l:=by
 have:=gT (l.take k) (l.drop k)
 rw[take_append_drop]at this;omega
def stmtsB(p:St->Bool)(l:List St):Bool:=decide (aU l<=2000)&&l.all p
def xU{p:St->Bool}(h:2000<aU (l.take k)):stmtsB p l=false:=by
 have:=xT l k
 simp only[stmtsB,decide_eq_false (show ¬aU l<=2000 by omega),Bool.false_and]
def xV{p:St->Bool}(H:k<l.length)(h:p l[k]=false):stmtsB p l=false:=by
 have:l.all p=false:=by rw[all_eq_false];exact⟨l[k],g_ H,by simp[h]⟩
 simp[stmtsB,this]
def Bn{p:St->Bool}(h:aU l<=2000)(h2:∀s∈l,p s=true):stmtsB p l=true:=by
 have:l.all p=true:=all_eq_true.2 h2
 simp[stmtsB,this,h]
def G_{p:IF->Bool}{l:List IF}(H:k<l.length)(h:p l[k]=false):l.all p=false:=by rw[all_eq_false];exact⟨l[k],g_ H,by simp[h]⟩
def funcB(f:Fu):Bool:=cU f.nm&&(decide (f.pm.length<=6)&&(decide (f.bd.length<=500)&&(f.pm.all cU&&(stmtsB bB f.bd&&cD f.bd))))
def fN(g:Gl):Bool:=cU g.nm&&decide (0<=g.size/\g.size<=4000)
def co(t:Tr):Bool:=decide (t.gl.length<=50)&&(decide (t.fc.length<=50)&&(t.gl.all fN&&t.fc.all funcB))
def DF{l:List Gl}(H:k<l.length)(h:fN l[k]=false):l.all fN=false:=by rw[all_eq_false];exact⟨l[k],g_ H,by simp[h]⟩
def DG{l:List Fu}(H:k<l.length)(h:funcB l[k]=false):l.all funcB=false:=by rw[all_eq_false];exact⟨l[k],g_ H,by simp[h]⟩
def lq(s:St):Prop:=s.e.length<=1048576/\s.f.length<=1048576
def iP(f:Fu):Prop:=f.pm.length<=1048576/\f.bd.length<=1048576/\∀s∈f.bd,lq s
def eK(t:Tr):Prop:=t.gl.length<=1048576/\t.fc.length<=1048576/\∀f∈t.fc,iP f
end
section
variable{α:Type}{left:Int}{n:Nat}
def MC(ns:List Nd):Prop:=ns.length<=9223372036854775807/\∀n∈ns,n.nm.size<=9223372036854775807
def uO(s:St):Prop:=s.nm.size<=9223372036854775807/\MC s.e/\MC s.f
def OV(ss:List St):Prop:=ss.length<=9223372036854775807/\∀s∈ss,uO s
def OW(ps:List IF):Prop:=ps.length<=9223372036854775807/\∀s∈ps,s.size<=9223372036854775807
def G0(f:Fu):Prop:=f.nm.size<=9223372036854775807/\OW f.pm/\OV f.bd
def Bp(fs:List Fu):Prop:=fs.length<=9223372036854775807/\∀f∈fs,G0 f
def OX(gs:List Gl):Prop:=gs.length<=9223372036854775807/\∀g∈gs,g.nm.size<=9223372036854775807
def xL(t:Tr):Prop:=OX t.gl/\Bp t.fc
end
section
open Go.RowKit
variable{e r:List Nd}{A:Nat}{b:Nat->Nat}{F F':Nat->List Nd}
def iQ(v:Int):List Nd:=[⟨1,v,⟨#[]⟩⟩]
def gI:List Nd->Option Int
 | [n]=>if n.kd=1 then some n.val else none
 | _=>none
def boolN(b:Bool):Int:=if b then 1 else 0
def MD(x:Int):Int:=wrap32 x
def Dl(op a:Int):Int:=if op=0 then MD (-a)else if op=1 then boolN (decide (a=0))else MD (-1-a)
def eX(e:List Nd):List Nd:=match gI e with
 | some v=>iQ (boolN (decide (v≠0)))
 | none=>e++[⟨1,0,⟨#[]⟩⟩,⟨7,12,⟨#[]⟩⟩]
def joinF(F:Nat->List Nd):Nat->List Nd
 | 0=>[]
 | i+1=>joinF F i++F i
def eH(ap:Int->Int->Int->Int)(n:Nd)(A:Nat)(F:Nat->List Nd):List Nd:=
 if n.kd=6 then(match gI (F 0)with|some x=>iQ (Dl n.val x)|none=>F 0++[n])
 else if n.kd=7 then(match gI (F 0),gI (F 1)with|some x,some y=>iQ (ap n.val x y)|_,_=>F 0++F 1++[n])
 else if n.kd=8 then(match gI (F 0)with|some x=>if x=0 then iQ 0 else eX (F 1)|none=>F 0++F 1++[n])
 else if n.kd=9 then(match gI (F 0)with|some x=>if x=0 then eX (F 1)else iQ 1|none=>F 0++F 1++[n])
 else joinF F A++[n]
structure FdC (ap:Int->Int->Int->Int)(P:List Nd->List Nd->Prop):Prop where
 c_::
 mk:∀e A(b:Nat->Nat)(F:Nat->List Nd),Cut e A b->(∀i,i<A->P (mE e b i) (F i))->P e (eH ap (d6 e) A F)
structure Fd (ap:Int->Int->Int->Int)(a0:List Nd)(a1:List Nd):Prop where
 c_::
 out:∀P,FdC ap P->P a0 a1
theorem Fd.C{ap:Int->Int->Int->Int}:FdC ap (Fd ap):=⟨λe A b F q0 q1=>⟨λP h=>h.mk e A b F q0 (λi r0=>(q1 i r0).out P h)⟩⟩
abbrev Fd.mk {ap}:=(Fd.C:FdC ap _).mk
theorem Fd_i{ap:Int->Int->Int->Int}{M:∀(a0:List Nd)(a1:List Nd),Fd ap a0 a1->Prop}
 (mk:∀e A(b:Nat->Nat)(F:Nat->List Nd),Cut e A b->∀q1:∀i,i<A->Fd ap (mE e b i) (F i),(∀ i (r0 : i<A),M (mE e b i) (F i) (q1 i r0))->∀t,M e (eH ap (d6 e) A F) t)
 {a0:List Nd}{a1:List Nd}(t:Fd ap a0 a1):M a0 a1 t:=
 (t.out (λa0 a1=>∃z_,M a0 a1 z_) ⟨λe A b F q0 q1=>⟨.mk e A b F q0 (λi r0=>(q1 i r0).1),mk e A b F q0 _ (λi r0=>(q1 i r0).2) _⟩⟩).2
def DH{ns:List Nd}{k i j:Nat}(h:Bf ns k i)(J:Bf ns k j):i=j:=by
 obtain⟨U,X,H⟩:=h;obtain⟨O,Y,I⟩:=J;rcases Nat.lt_trichotomy i j with h|h|h
 have:=H j h o_;omega
 exact h
 have:=I i h o_;omega
theorem Cut.one{J:Nat}{H:Nat->Nat}(h:Cut e A b)(I:Cut e J H):A=J/\∀i,i<=A->b i=H i:=by
 have X:A=J:=Ht h.ar I.ar;subst X;refine⟨rfl,?_⟩;have:∀d,d<=A->b (A-d)=H (A-d):=by
  intro d;induction d with
  | zero=>intro _;rw[Nat.sub_zero,h.last,I.last]
  | succ d ih=>intro Y;have U:=ih o_;have O:=h.beg (A-(d+1)) o_;have h2:=I.beg (A-(d+1)) o_;rw[show A-(d+1)+1=A-d by omega]at O h2;rw[<-U]at h2;exact DH O h2
 intro i Z;have:=this (A-i) o_;rwa[show A-(A-i)=i by omega]at this
theorem uP(A:Nat)(h:∀i,i<A->F i=F' i):joinF F A=joinF F' A:=by
 induction A with
 | zero=>rfl
 | succ A ih=>simp only[joinF];rw[ih (λi hi=>h i o_),h A o_]
def Cut.ar1(h:Cut e A b)(H:(d6 e).kd=3\/(d6 e).kd=6):A=1:=by
 have:=h.ar
 unfold arity at this;rw[if_pos H]at this;omega
def Cut.ar2(h:Cut e A b)(H:(d6 e).kd=7\/(d6 e).kd=8\/(d6 e).kd=9):A=2:=by
 have:=h.ar
 unfold arity at this;rw[if_neg o_,if_neg o_,if_pos H]at this;omega
def uQ(ap:Int->Int->Int->Int)(H:Cut e A b)(h:∀i,i<A->F i=F' i):eH ap (d6 e) A F=eH ap (d6 e) A F':=by unfold eH;split;rename_i hk;have:=H.ar1 (.inr hk);rw[h 0 o_];split;rename_i hk;have:=H.ar2 (.inl hk);rw[h 0 o_,h 1 o_];split;rename_i hk;have:=H.ar2 (.inr (.inl hk));rw[h 0 o_,h 1 o_];split;rename_i hk;have:=H.ar2 (.inr (.inr hk));rw[h 0 o_,h 1 o_];rw[uP A h]
theorem Fd.one{ap:Int->Int->Int->Int}{H:List Nd}(h:Fd ap e r)(O:Fd ap e H):r=H:=by
 induction h using Fd_i generalizing H with
 | mk e A b F hc hk ih=>
  cases O using Fd_i with
  | mk _ A' b' F' hc' hk'=>
   obtain⟨rfl,I⟩:=hc.one hc';have:∀i,i<A->F i=F' i:=λi hi=>ih i hi (by have J:mE e b i=mE e b' i:=(by unfold mE;rw[I i o_,I (i+1) o_]);rw[J];exact hk' i hi)
   exact uQ ap hc this
theorem Bq(H:Cut e A b)(h:∀i,i<A->(F i).length<=(mE e b i).length):∀i,i<=A->(joinF F i).length<=b i:=by
 intro i;induction i with
 | zero=>intro _;simp[joinF]
 | succ i ih=>intro J;have I:=ih o_;have h2:=h i o_;rw[H.kid_len i o_]at h2;have h3:=(H.beg i o_).1;simp only[joinF,l_a];omega
def o9(e:List Nd):(eX e).length<=e.length+2:=by unfold eX;split <;> simp[iQ]
theorem Fd.len{ap:Int->Int->Int->Int}(h:Fd ap e r):r.length<=e.length:=by
 induction h using Fd_i with
 | mk e A b F hc hk ih=>have Z:=hc.len;have Ja:=hc.last;have Y:=Bq hc ih A n_;unfold eH;split;rename_i hk1;have H:=hc.ar1 (.inr hk1);subst H;have I:=ih 0 o_;rw[hc.kid_len 0 o_]at I;split;simp[iQ];omega;simp only[l_a,l_c,l_n,Nat.zero_add]at*;omega;split;rename_i hk1;have H:=hc.ar2 (.inl hk1);subst H;have I:=ih 0 o_;have J:=ih 1 o_;have U:=(hc.beg 0 o_).1;have O:=(hc.beg 1 o_).1;rw[hc.kid_len 0 o_]at I;rw[hc.kid_len 1 o_]at J;split;simp[iQ];omega;simp only[l_a,l_c,l_n,Nat.zero_add,Nat.reduceAdd]at*;omega;split;rename_i hk1;have H:=hc.ar2 (.inr (.inl hk1));subst H;have I:=ih 0 o_;have J:=ih 1 o_;have U:=(hc.beg 0 o_).1;have O:=(hc.beg 1 o_).1;rw[hc.kid_len 0 o_]at I;rw[hc.kid_len 1 o_]at J;have X:=o9 (F 1);simp only[Nat.zero_add,Nat.reduceAdd]at*;split;split;simp[iQ];omega;omega;simp only[l_a,l_c,l_n]at*;omega;split;rename_i hk1;have H:=hc.ar2 (.inr (.inr hk1));subst H;have I:=ih 0 o_;have J:=ih 1 o_;have U:=(hc.beg 0 o_).1;have O:=(hc.beg 1 o_).1;rw[hc.kid_len 0 o_]at I;rw[hc.kid_len 1 o_]at J;have X:=o9 (F 1);simp only[Nat.zero_add,Nat.reduceAdd]at*;split;split;omega;simp[iQ];omega;simp only[l_a,l_c,l_n]at*;omega;simp only[l_a,l_c,l_n];omega
end
section
variable{e:List Nd}{n:Nd}{A L:Nat}{F:Nat->List Nd}{b:Nat->Nat}
def fO(G:Nat->Int->Int):Nat->Int->Int
 | 0,d=>d+1
 | i+1,d=>max (fO G i d) (G i (d+i))
def fP(n:Nd)(A:Nat)(G:Nat->Int->Int):Int->Int:=
 if n.kd=3\/n.kd=6 then G 0
 else if n.kd=7 then λd=>max (G 0 d) (G 1 (d+1))
 else if n.kd=8\/n.kd=9 then λd=>max (G 0 d) (G 1 d)
 else fO G A
def ME(stk:List (Int->Int))(n:Nd):List (Int->Int):=fP n (arity n).toNat (λi=>stk.getD ((arity n).toNat-1-i) (λd=>d))::stk.drop (arity n).toNat
def JA(e:List Nd)(stk:List (Int->Int)):List (Int->Int):=e.foldl ME stk
def evN_append(a b:List Nd)(Ja:List (Int->Int)):JA (a++b) Ja=JA b (JA a Ja):=by simp[JA]
def NF(e:List Nd)(g:Int->Int):Prop:=∀stk,JA e stk=g::stk
theorem nK{G H:Nat->Int->Int}:∀(A:Nat),(∀i,i<A->G i=H i)->fO G A=fO H A
 | 0,_=>rfl
 | A+1,h=>by
  funext d
  simp only[fO];rw[nK A (λi hi=>h i o_),h A o_]
def uR{G H:Nat->Int->Int}(h3:n.kd=3\/n.kd=6->1<=A)(h7:n.kd=7\/n.kd=8\/n.kd=9->2<=A)(h:∀i,i<A->G i=H i):fP n A G=fP n A H:=by unfold fP;split;rename_i hk;exact h 0 (Ft (h3 hk));split;rename_i hk;rw[h 0 (by have:=h7 (.inl hk);omega),h 1 (by have:=h7 (.inl hk);omega)];split;rename_i hk;rw[h 0 (by have:=h7 (.inr hk);omega),h 1 (by have:=h7 (.inr hk);omega)];exact nK A h
theorem uS{F:Nat->List Nd}{G:Nat->Int->Int}:∀(A:Nat) (stk:List (Int->Int)),(∀i,i<A->NF (F i) (G i))->JA (joinF F A) stk=((List.range A).map G).reverse++stk
 | 0,stk,_=>rfl
 | A+1,stk,h=>by rw[joinF,evN_append,uS A stk (λi hi=>h i o_),h A o_,range_succ];simp
def DI{G:Nat->Int->Int}{i:Nat}(Ja:List (Int->Int))(H:i<A):(((List.range A).map G).reverse++Ja).getD (A-1-i) (λd=>d)=G i:=by
 have h:A-1-i<((List.range A).map G).reverse.length:=by simp;omega
 simp only[List.getD];rw[getElem?_append_left h,K3 h];simp only[Option.getD_some,getElem_reverse,getElem_map,getElem_range,K8,length_range];congr 1;omega
def NF.node(O:aD n=true)(I:arity n=A){G:Nat->Int->Int}(h:∀i,i<A->NF (F i) (G i)):NF (joinF F A++[n]) (fP n A G):=by
 intro Ja;have e:(arity n).toNat=A:=o_;rw[evN_append,uS A Ja h];show ME (((List.range A).map G).reverse++Ja) n=_;unfold ME;rw[e];have J:(((List.range A).map G).reverse++Ja).drop A=Ja:=by rw[drop_append_of_le_length i_];simp
 rw[J,uR (H:=G) (λhk=>?_) (λhk=>?_) (λi hi=>DI Ja hi)];rcases hk with hk|hk <;> (simp[arity,hk]at I;omega)
 rcases hk with hk|hk|hk <;> (simp[arity,hk]at I;omega)
theorem DJ(h:Cut e A b):∀i,i<=A->joinF (mE e b) i=e.take (b i):=by
 intro i;induction i with
 | zero=>intro _;rw[h.first];rfl
 | succ i ih=>
  intro J;have I:=(h.beg i o_).1;rw[joinF,ih o_,mE];have H:e.take (b i)=(e.take (b (i+1))).take (b i):=by rw[take_take];congr 1;omega
  rw[H,take_append_drop]
def pd(h:Cut e A b):joinF (mE e b) A++[d6 e]=e:=by have H:=h.len;rw[DJ h A n_,h.last,i8 e H];have:=take_succ_eq_append_getElem (l:=e) (i:=e.length-1) o_;rw[<-this,show e.length-1+1=e.length by omega,take_length]
def NF.cut(H:Cut e A b){G:Nat->Int->Int}(h:∀i,i<A->NF (mE e b i) (G i)):NF e (fP (d6 e) A G):=by
 have:=NF.node H.root_good H.ar h
 rw[pd H]at this;exact this
def xW(L:Nat)(g:Int->Int):Prop:=∀d,d<=g d/\g d<=d+7*L
theorem pf{G:Nat->Int->Int}{L:Nat}:∀(A:Nat) (d:Int),A<=6->(∀i,i<A->xW L (G i))->d<=fO G A d/\fO G A d<=d+7*(L+1)
 | 0,d,_,_=>by simp only[fO];omega
 | A+1,d,hA,h=>by have⟨h1,h2⟩:=pf A d o_ (λi hi=>h i o_);have h3:=h A o_ (d+A);simp only[fO];omega
def jU{G:Nat->Int->Int}(I:aD n=true)(H:arity n=A)(h:∀i,i<A->xW L (G i)):xW (L+1) (fP n A G):=by
 intro d;have h6:=(dC I).2;unfold fP;split;rename_i hk;have e:A=1:=by rcases hk with hk|hk <;> (simp[arity,hk]at H;omega)
 have:=h 0 o_ d
 omega;split;rename_i hk;have e:A=2:=(by simp[arity,hk]at H;omega);have:=h 0 o_ d
 have:=h 1 o_ (d+1)
 simp only;omega;split;rename_i hk;have e:A=2:=by rcases hk with hk|hk <;> (simp[arity,hk]at H;omega)
 have:=h 0 o_ d
 have:=h 1 o_ d
 simp only;omega;exact pf A d o_ h
def xW.mono{M:Nat}{g:Int->Int}(h:xW L g)(hl:L<=M):xW M g:=λd=>Ft (h d)
theorem NF.exists(N:Nat):∀e:List Nd,e.length<=N->oneB e=true->∃g,NF e g/\xW e.length g:=by
 induction N with
 | zero=>intro e O h;have:=lL h;omega
 | succ N ih=>
  intro e O h;have⟨A,b,H,J⟩:=uN h;have I:∀i,∃g,i<A->NF (mE e b i) g/\xW (mE e b i).length g:=by
   intro i;by_cases hi:i<A
   have⟨g,U⟩:=ih (mE e b i) (Ft (H.kid_lt i hi)) (J i hi);exact⟨g,λ_=>U⟩
   exact⟨λd=>d,λh=>absurd h hi⟩
  refine⟨_,NF.cut H (G:=λi=>(I i).choose) (λi hi=>((I i).choose_spec hi).1),?_⟩;have:=jU (L:=e.length-1) H.root_good H.ar (λi hi=>(((I i).choose_spec hi).2).mono (Ft (H.kid_lt i hi)));rw[show e.length-1+1=e.length by have:=H.len;omega]at this;exact this
end
section
open Go.RowKit
variable{e:List Nd}{T:List (List Nd)}
theorem uT(l:List Nd)(d:Int)(H:0<=d):∀(k q:Int),wholeTo l k=some q->wholeTo l (k+d)=some (q+d):=by
 induction l with
 | nil=>intro k q h;simp only[wholeTo,If]at*;omega
 | cons n r ih=>intro k q h;simp only[wholeTo]at*;split at h;rename_i hh;rw[if_pos ⟨hh.1,o_⟩];have:=ih _ _ h;rw[show k+d+1-arity n=k+1-arity n+d by omega];exact this;cases h
def mF{s:List Nd}(h:oneB s=true):wholeTo s 0=some 1:=by simpa[oneB]using h
theorem fF(T:List (List Nd))(h:∀s∈T,oneB s=true):∀k:Int,0<=k->wholeTo T.flatten k=some (k+T.length):=by
 induction T with
 | nil=>intro k I;simp[wholeTo]
 | cons s T ih=>intro k I;rw[flatten_cons,wholeTo_append];have H:=uT s k I 0 1 (mF (h s i_));rw[show(0:Int)+k=k by omega]at H;rw[H,Option.bind_some,ih (λs hs=>h s (by simp[hs])) (1+k) o_];simp only[l_c,If];omega
def Br(T:List (List Nd))(i:Nat)(H:i<T.length):T.flatten.take (T.take (i+1)).flatten.length=(T.take i).flatten++T[i]:=by
 have e:T=T.take (i+1)++T.drop (i+1):=(take_append_drop _ _).symm;have h:T.flatten=(T.take (i+1)).flatten++(T.drop (i+1)).flatten:=by rw[<-flatten_append,<-e]
 rw[h,take_left,take_add_one,flatten_append];simp[K3 H]
def DK(T:List (List Nd))(i:Nat)(h:i<T.length):(T.take (i+1)).flatten.length=(T.take i).flatten.length+T[i].length:=by rw[take_add_one,flatten_append,l_a];simp[K3 h]
def G1(T:List (List Nd))(i:Nat):(T.take i).flatten.length<=T.flatten.length:=by
 have h:T.flatten=(T.take i).flatten++(T.drop i).flatten:=by rw[<-flatten_append,take_append_drop]
 rw[h,l_a];omega
def oG(T:List (List Nd))(n:Nd)(i:Nat)(h:i<T.length):((T.flatten++[n]).take (T.take (i+1)).flatten.length).drop (T.take i).flatten.length=T[i]:=by rw[take_append_of_le_length (G1 T _),Br T i h,drop_left]
def rG(l:List Nd)(n:Nd):d6 (l++[n])=n:=by simp[d6]
def ja(T:List (List Nd))(n:Nd)(H:aD n=true)(I:arity n=T.length)(h:∀s∈T,oneB s=true):oneB (T.flatten++[n])=true:=by
 have:wholeTo (T.flatten++[n]) 0=some 1:=by rw[wholeTo_append,fF T h 0 (Int.le_refl _),Option.bind_some];simp only[wholeTo];rw[if_pos ⟨H,o_⟩];simp only[If];omega
 simpa[oneB]using this
def uU(T:List (List Nd))(n:Nd)(J:aD n=true)(I:arity n=T.length)(h:∀s∈T,oneB s=true):
  Cut (T.flatten++[n]) T.length (λi=>(T.take i).flatten.length):=by
 refine⟨i_,by rw[rG];exact I,gS (ja T n J I h),i_,i_,λi hi=>?_⟩;have U:=DK T i hi;have H:=(o6 T[i]).1 (h _ (g_ _));have O:=lL (h _ (g_ hi));refine⟨o_,?_,λj h1 h2=>?_⟩;rw[oG T n i hi];exact H.2.1;have e:((T.flatten++[n]).take (T.take (i+1)).flatten.length).drop j=T[i].drop (j-(T.take i).flatten.length):=by rw[<-oG T n i hi,drop_drop];congr 1;omega
 rw[e];exact H.2.2 _ o_ o_
def G2(ap:Int->Int->Int->Int)(T:List (List Nd))(n:Nd)(I:aD n=true)(H:arity n=T.length)(h:∀s∈T,oneB s=true)(F:Nat->List Nd)(J:∀i (hi:i<T.length),Fd ap T[i] (F i)):
  Fd ap (T.flatten++[n]) (eH ap n T.length F):=by
 have:=Fd.mk (ap:=ap) (T.flatten++[n]) T.length _ F (uU T n I H h) (λi hi=>by rw[mE,oG T n i hi];exact J i hi)
 rwa[rG]at this
def rH(J:oneB e=true)(h:∀s∈T,oneB s=true){k:Nat}(I:k<e.length)(O:T.flatten=e.take k):aD e[k]=true/\arity e[k]<=T.length:=by have H:=mF J;have⟨p,h2,h3⟩:=fW e 0 1 H (k+1);have h4:=fF T h 0 (Int.le_refl _);rw[O]at h4;have:=fE e k _ I h4;rw[h2]at this;split at this;rename_i hh;exact⟨hh.1,o_⟩;cases this
def uV(I:oneB e=true)(h:∀s∈T,oneB s=true)(H:T.flatten=e):T=[e]:=by have h4:=fF T h 0 (Int.le_refl _);rw[H,mF I]at h4;simp only[If]at h4;have h5:T.length=1:=o_;obtain⟨s,rfl⟩:=length_eq_one_iff.1 h5;simp at H;rw[H]
end
section
variable{l:List St}
def ch(s:St)(a b:List St):List St:=
 if s.kd=4 then(match gI s.e with
  | some v=>if v=0 then b else a
  | none=> {s with th:=a.length,el:=b.length}::(a++b))
 else if s.kd=5 then(if gI s.e=some 0 then[]else {s with th:=a.length,el:=b.length}::(a++b))
 else {s with th:=a.length,el:=b.length}::(a++b)
def ph:Nat->List St->Bool
 | _,[]=>false
 | 0,_::_=>false
 | n+1,s::r=>decide (s.kd=6) || ph n (r.drop (s.th.toNat+s.el.toNat))
def jV(l:List St):Bool:=ph l.length l
theorem Bt(n m:Nat)(l:List St)(H:l.length<=n)(h:l.length<=m):ph n l=ph m l:=by
 induction n generalizing m l with
 | zero=>
  have:l=[]:=K1 o_
  subst this;cases m <;> rfl
 | succ n ih=>
  cases l with
  | nil=>cases m <;> rfl
  | cons s r=>
   cases m with
   | zero=>simp at h
   | succ m=>simp only[l_c]at H h;simp only[ph];rw[ih m (r.drop (s.th.toNat+s.el.toNat)) Do Do]
def endsB_cons(s:St)(r:List St):jV (s::r)=(decide (s.kd=6) || jV (r.drop (s.th.toNat+s.el.toNat))):=by show ph (r.length+1) (s::r)=_;simp only[ph];rw[Bt r.length _ (r.drop (s.th.toNat+s.el.toNat)) i_ n_];rfl
def jb:Nat->List St->List St
 | _,[]=>[]
 | 0,_::_=>[]
 | n+1,s::r=>
  if jV (ch s (jb n (r.take s.th.toNat)) (jb n ((r.drop s.th.toNat).take s.el.toNat)))=true then ch s (jb n (r.take s.th.toNat)) (jb n ((r.drop s.th.toNat).take s.el.toNat))
  else ch s (jb n (r.take s.th.toNat)) (jb n ((r.drop s.th.toNat).take s.el.toNat))++jb n (r.drop (s.th.toNat+s.el.toNat))
def aN(l:List St):List St:=jb l.length l
theorem mG(n m:Nat)(l:List St)(H:l.length<=n)(h:l.length<=m):jb n l=jb m l:=by
 induction n generalizing m l with
 | zero=>
  have:l=[]:=K1 o_
  subst this;cases m <;> rfl
 | succ n ih=>
  cases l with
  | nil=>cases m <;> rfl
  | cons s r=>
   cases m with
   | zero=>simp at h
   | succ m=>simp only[l_c]at H h;simp only[jb];rw[ih m (r.take s.th.toNat) Do Do,ih m ((r.drop s.th.toNat).take s.el.toNat) Do Do,ih m (r.drop (s.th.toNat+s.el.toNat)) Do Do]
def kE:aN []=[]:=rfl
def pi(s:St)(r:List St):List St:=ch s (aN (r.take s.th.toNat)) (aN ((r.drop s.th.toNat).take s.el.toNat))
def lr(s:St)(r:List St):aN (s::r)=if jV (pi s r)=true then pi s r else pi s r++aN (r.drop (s.th.toNat+s.el.toNat)):=by show jb (r.length+1) (s::r)=_;simp only[jb];rw[mG r.length _ (r.take s.th.toNat) Do n_,mG r.length _ ((r.drop s.th.toNat).take s.el.toNat) Do n_,mG r.length _ (r.drop (s.th.toNat+s.el.toNat)) i_ n_];rfl
def rI(s:St)(a b:List St):(ch s a b).length<=1+a.length+b.length:=by
 unfold ch;split;split;split <;> omega
 simp;omega
 split;split
 simp
 simp;omega
 simp;omega
def Bu(r:List St)(i j:Nat):(r.take i).length+((r.drop i).take j).length+(r.drop (i+j)).length<=r.length:=by simp only[length_take,length_drop];omega
theorem fX:∀(N:Nat) (l:List St),l.length<=N->(aN l).length<=l.length
 | 0,l,h=>by
  have:l=[]:=K1 o_
  subst this;simp[kE]
 | N+1,[],h=>by simp[kE]
 | N+1,s::r,h=>by simp only[l_c]at h;rw[lr];have h1:=fX N (r.take s.th.toNat) Do;have h2:=fX N ((r.drop s.th.toNat).take s.el.toNat) Do;have h3:=fX N (r.drop (s.th.toNat+s.el.toNat)) Do;have h4:=rI s (aN (r.take s.th.toNat)) (aN ((r.drop s.th.toNat).take s.el.toNat));have h5:=Bu r s.th.toNat s.el.toNat;split;unfold pi;simp only[l_c];omega;rw[l_a];unfold pi;simp only[l_c];omega
def jW(l:List St)(x:St):Prop:=∃s∈l,x.kd=s.kd/\x.nm=s.nm/\x.e=s.e/\x.f=s.f
def jW.mono{H:List St}{x:St}(h:jW l x)(J:∀s∈l,s∈H):jW H x:=by obtain⟨s,I,h2⟩:=h;exact⟨s,J s I,h2⟩
def xX{s:St}{a b:List St}(I:s∈l)(h:∀x∈a,jW l x)(H:∀x∈b,jW l x):∀x∈ch s a b,jW l x:=by
 have Ja:∀x∈({s with th:=a.length,el:=b.length}:St)::(a++b),jW l x:=by intro x hx;rcases mem_cons.1 hx with rfl|hx;exact⟨s,I,rfl,rfl,rfl,rfl⟩;rcases K5.1 hx with hx|hx;exact h x hx;exact H x hx
 unfold ch;split;split;split;exact H;exact h;exact Ja;split;split;intro x hx;cases hx;exact Ja;exact Ja
theorem gU:∀(N:Nat) (l:List St),l.length<=N->∀x∈aN l,jW l x
 | 0,l,h=>by
  have:l=[]:=K1 o_
  subst this;intro x hx;cases hx
 | N+1,[],h=>by intro x hx;cases hx
 | N+1,s::r,h=>by simp only[l_c]at h;rw[lr];have h1:=gU N (r.take s.th.toNat) Do;have h2:=gU N ((r.drop s.th.toNat).take s.el.toNat) Do;have h3:=gU N (r.drop (s.th.toNat+s.el.toNat)) Do;have hm:∀x∈pi s r,jW (s::r) x:=xX i_ (λx hx=>(h1 x hx).mono λy hy=>m_ _ (mem_of_mem_take hy)) (λx hx=>(h2 x hx).mono λy hy=>m_ _ (K6 (mem_of_mem_take hy)));split;exact hm;intro x hx;rcases K5.1 hx with hx|hx;exact hm x hx;exact(h3 x hx).mono λy hy=>m_ _ (K6 hy)
end
section
section
variable{e:List Nd}{F:Nat->List Nd}{A:Nat}
variable{α:Type}[Inhabited α]
def OY(st:Nd->Nat->(Nat->α)->α)(stk:List α)(n:Nd):List α:=st n (arity n).toNat (λi=>stk.getD ((arity n).toNat-1-i) default)::stk.drop (arity n).toNat
def J2(st:Nd->Nat->(Nat->α)->α)(e:List Nd)(stk:List α):List α:=e.foldl (OY st) stk
def eaN_append(st:Nd->Nat->(Nat->α)->α)(a b:List Nd)(Ja:List α):J2 st (a++b) Ja=J2 st b (J2 st a Ja):=by simp[J2]
def EA(st:Nd->Nat->(Nat->α)->α)(e:List Nd)(g:α):Prop:=∀stk,J2 st e stk=g::stk
def Own(st:Nd->Nat->(Nat->α)->α):Prop:=∀(n:Nd) (A:Nat) (G H:Nat->α),aD n=true->arity n=A->(∀i,i<A->G i=H i)->st n A G=st n A H
theorem uW{st:Nd->Nat->(Nat->α)->α}{F:Nat->List Nd}{G:Nat->α}:∀(A:Nat) (stk:List α),(∀i,i<A->EA st (F i) (G i))->J2 st (joinF F A) stk=((List.range A).map G).reverse++stk
 | 0,stk,_=>rfl
 | A+1,stk,h=>by rw[joinF,eaN_append,uW A stk (λi hi=>h i o_),h A o_,range_succ];simp
def DL{G:Nat->α}{i:Nat}(Ja:List α)(H:i<A):(((List.range A).map G).reverse++Ja).getD (A-1-i) default=G i:=by
 have h:A-1-i<((List.range A).map G).reverse.length:=by simp;omega
 simp only[List.getD];rw[getElem?_append_left h,K3 h];simp only[Option.getD_some,getElem_reverse,getElem_map,getElem_range,K8,length_range];congr 1;omega
def EA.node{st:Nd->Nat->(Nat->α)->α}(I:Own st){n:Nd}(O:aD n=true)(J:arity n=A){G:Nat->α}(h:∀i,i<A->EA st (F i) (G i)):EA st (joinF F A++[n]) (st n A G):=by
 intro Ja;have e:(arity n).toNat=A:=o_;rw[eaN_append,uW A Ja h];show OY st (((List.range A).map G).reverse++Ja) n=_;unfold OY;rw[e];have H:(((List.range A).map G).reverse++Ja).drop A=Ja:=by rw[drop_append_of_le_length i_];simp
 rw[H,I n A _ G O J (λi hi=>DL Ja hi)]
def EA.cut{st:Nd->Nat->(Nat->α)->α}(I:Own st){b:Nat->Nat}(H:Cut e A b){G:Nat->α}(h:∀i,i<A->EA st (mE e b i) (G i)):EA st e (st (d6 e) A G):=by
 have:=EA.node I H.root_good H.ar h
 rw[pd H]at this;exact this
def OZ(st:Nd->Nat->(Nat->α)->α)(e:List Nd):α:=(J2 st e []).headD default
def EA.eq{st:Nd->Nat->(Nat->α)->α}{g:α}(h:EA st e g):OZ st e=g:=by unfold OZ;rw[h []];rfl
end
end
structure dE where
 n:Nat
 loc:IF->Option Int
 glob:IF->Int
 fn:IF->Int
def aw(op rd s1 s2 im:Int):It:=⟨1,⟨op,rd,s1,s2,im⟩,0⟩
def aW(kind label:Int):It:=⟨kind,⟨0,0,0,0,0⟩,label⟩
def Af(op reg label:Int):It:=⟨3,⟨op,0,reg,0,0⟩,label⟩
def bw(d sp:Int):Int:=if d=0 then 5 else if d=1 then 6 else if d=2 then 7 else if d=3 then 28 else if d=4 then 29 else sp
def gV(E:dE)(d:Int):Int:=4*((E.n:Int)+d)
def readL(E:dE)(d sp:Int):List It:=if 5<=d then[aw 10 sp 2 0 (gV E d)]else[]
def writeL(E:dE)(d:Int):List It:=if 5<=d then[aw 11 0 2 30 (gV E d)]else[]
def cK(reg v:Int):List It:=
 if -2048<=v/\v<=2047 then[aw 12 reg 0 0 v]
 else[aw 1 reg 0 0 (((v+2048) / 4096)%1048576)]++(if v=(v+2048) / 4096*4096 then[]else[aw 12 reg reg 0 (v-(v+2048) / 4096*4096)])
def ey(E:dE)(d:Int):List It:=if 5<=d then[aw 11 0 2 10 (gV E d)]else[aw 12 (bw d 30) 10 0 0]
def G3(op r a:Int):List It:=if op=0 then[aw 22 r 0 a 0]else if op=1 then[aw 14 r a 0 1]else[aw 15 r a 0 (-1)]
def JB(op:Int):Int:=if op=0 then 31 else if op=1 then 32 else if op=2 then 33 else if op=3 then 21 else if op=4 then 22 else if op=5 then 23 else if op=6 then 28 else if op=13 then 30 else if op=14 then 26 else 29
def jX(op r a b:Int):List It:=
 if op=7 then[aw 24 r a b 0]else if op=9 then[aw 24 r b a 0]
 else if op=8 then[aw 24 r b a 0,aw 15 r r 0 1]else if op=10 then[aw 24 r a b 0,aw 15 r r 0 1]
 else if op=11 then[aw 22 r a b 0,aw 14 r r 0 1]else if op=12 then[aw 22 r a b 0,aw 25 r 0 r 0]
 else[aw (JB op) r a b 0]
def J3(E:dE)(s:IF)(r:Int):List It:=match E.loc s with
 | some at_=>[aw 10 r 2 0 at_]
 | none=>cK 31 (E.glob s)++[aw 10 r 31 0 0]
abbrev tD:=Int->Int->List It×Int
def iC(G:Nat->tD)(d:Int):Nat->Int->List It×Int
 | 0,l=>([],l)
 | i+1,l=>((iC G d i l).1++(G i (d+i) (iC G d i l).2).1,(G i (d+i) (iC G d i l).2).2)
def Ag(E:dE):Nat->List It
 | 0=>[]
 | j+1=>Ag E j++[aw 11 0 2 (bw j 0) (gV E j)]
def Ah(E:dE):Nat->List It
 | 0=>[]
 | j+1=>Ah E j++[aw 10 (bw j 0) 2 0 (gV E j)]
def Ai(E:dE)(d:Int):Nat->List It
 | 0=>[]
 | i+1=>Ai E d i++[if d+i<5 then aw 12 (10+i) (bw (d+i) 0) 0 0 else aw 10 (10+i) 2 0 (gV E (d+i))]
def DM(E:dE)(s:IF)(G:Nat->tD)(A:Nat):tD:=λd l=>((iC G d A l).1++Ag E (min d 5).toNat++Ai E d A++[aW 5 (E.fn s)]++Ah E (min d 5).toNat++ey E d,(iC G d A l).2)
def Aj(E:dE)(op:Int)(x y:tD):tD:=λd l=>((x d (l+1)).1++readL E d 30++[Af op (bw d 30) l]++(y d (x d (l+1)).2).1++[aW 2 l]++readL E d 30++[aw 25 (bw d 30) 0 (bw d 30) 0]++writeL E d,(y d (x d (l+1)).2).2)
def lM(E:dE)(n:Nd)(A:Nat)(G:Nat->tD):tD:=
 if n.kd=1 then λd l=>(cK (bw d 30) n.val++writeL E d,l)
 else if n.kd=2 then λd l=>(J3 E n.nm (bw d 30)++writeL E d,l)
 else if n.kd=3 then λd l=>((G 0 d l).1++readL E d 30++[aw 18 (bw d 30) (bw d 30) 0 2]++cK 31 (E.glob n.nm)++[aw 21 31 31 (bw d 30) 0,aw 10 (bw d 30) 31 0 0]++writeL E d,(G 0 d l).2)
 else if n.kd=4 then DM E n.nm G A
 else if n.kd=5 then λd l=>([aw 12 17 0 0 2,aw 34 0 0 0 0]++ey E d,l)
 else if n.kd=6 then λd l=>((G 0 d l).1++readL E d 30++G3 n.val (bw d 30) (bw d 30)++writeL E d,(G 0 d l).2)
 else if n.kd=7 then λd l=>((G 0 d l).1++(G 1 (d+1) (G 0 d l).2).1++readL E d 30++readL E (d+1) 31++jX n.val (bw d 30) (bw d 30) (bw (d+1) 31)++writeL E d,(G 1 (d+1) (G 0 d l).2).2)
 else Aj E (if n.kd=9 then 5 else 4) (G 0) (G 1)
theorem nL{G H:Nat->tD}{d:Int}:∀(A:Nat) (l:Int),(∀i,i<A->G i=H i)->iC G d A l=iC H d A l
 | 0,_,_=>rfl
 | A+1,l,h=>by simp only[iC];rw[nL A l (λi hi=>h i o_),h A o_]
def tE(E:dE):Own (lM E):=by
 intro n A G H J I h;have O:=fb J;unfold lM;by_cases h1:n.kd=1;simp[h1];by_cases h2:n.kd=2;simp[h2];by_cases h3:n.kd=3;have e:A=1:=by simp[arity,h3]at I;omega
 simp[h3,h 0 o_];by_cases h4:n.kd=4;simp only[h4];funext d l;simp[DM,nL (d:=d) A l h];by_cases h5:n.kd=5;simp[h5];by_cases h6:n.kd=6;have e:A=1:=by simp[arity,h6]at I;omega
 simp[h6,h 0 o_];by_cases h7:n.kd=7;have e:A=2:=by simp[arity,h7]at I;omega
 simp[h7,h 0 o_,h 1 o_];have e:A=2:=by have Ja:n.kd=8\/n.kd=9:=o_;rcases Ja with hh|hh <;> (simp[arity,hh]at I;omega)
 simp only[h1,h2,h3,h4,h5,h6,h7,if_false];rw[h 0 o_,h 1 o_]
def bG(E:dE)(e:List Nd):tD:=OZ (lM E) e
section
variable{F:Nat->List Nd}{A:Nat}
def CB(k:Nat)(g:tD):Prop:=∀d l,(g d l).1.length<=24*k/\l<=(g d l).2/\(g d l).2<=l+k
def rJ(E:dE)(d h:Int):(readL E d h).length<=1:=by unfold readL;split <;> simp
def xY(E:dE)(d:Int):(writeL E d).length<=1:=by unfold writeL;split <;> simp
def gQ(r v:Int):(cK r v).length<=2:=by unfold cK;split <;> (try split) <;> simp
def uX(E:dE)(d:Int):(ey E d).length=1:=by unfold ey;split <;> simp
def G4(op r a:Int):(G3 op r a).length=1:=by unfold G3;split <;> (try split) <;> simp
def gW(op r a b:Int):(jX op r a b).length<=2:=by unfold jX;split <;> (try split) <;> (try split) <;> (try split) <;> (try split) <;> (try split) <;> simp
def DN(E:dE)(s:IF)(r:Int):(J3 E s r).length<=3:=by
 unfold J3;split
 simp
 have:=gQ 31 (E.glob s);simp;omega
theorem keepL_len(E:dE):∀j,(Ag E j).length=j
 | 0=>rfl
 | j+1=>by simp[Ag,keepL_len E j]
theorem backL_len(E:dE):∀j,(Ah E j).length=j
 | 0=>rfl
 | j+1=>by simp[Ah,backL_len E j]
theorem rK(E:dE)(d:Int):∀j,(Ai E d j).length=j
 | 0=>rfl
 | j+1=>by simp[Ai,rK E d j]
theorem Ak{G:Nat->tD}{F:Nat->List Nd}{d:Int}:∀(A:Nat) (l:Int),(∀i,i<A->CB (F i).length (G i))->(iC G d A l).1.length<=24*(joinF F A).length/\l<=(iC G d A l).2/\(iC G d A l).2<=l+(joinF F A).length
 | 0,l,_=>by simp[iC,joinF]
 | A+1,l,h=>by have⟨h1,h2,h3⟩:=Ak (d:=d) A l (λi hi=>h i o_);have⟨g1,g2,g3⟩:=h A o_ (d+A) (iC G d A l).2;simp only[iC,joinF,l_a];refine⟨?_,?_,?_⟩ <;> omega
def rL(F:Nat->List Nd):(joinF F 1).length=(F 0).length:=by simp[joinF]
def mH(F:Nat->List Nd):(joinF F 2).length=(F 0).length+(F 1).length:=by simp[joinF]
def xZ(E:dE){n:Nd}{G:Nat->tD}(U:aD n=true)(O:arity n=A)(h:∀i,i<A->CB (F i).length (G i)):CB ((joinF F A).length+1) (lM E n A G):=by
 intro d l;have hk:=fb U;have h6:=dC U;have r1:=rJ E d 30;have r2:=rJ E (d+1) 31;have r3:=xY E d;have r4:=uX E d;unfold lM;by_cases h1:n.kd=1
 have:=gQ (bw d 30) n.val
 simp only[h1,if_true,l_a];refine⟨?_,?_,?_⟩ <;> omega
 rw[if_neg h1];by_cases h2:n.kd=2
 have:=DN E n.nm (bw d 30)
 simp only[h2,if_true,l_a];refine⟨?_,?_,?_⟩ <;> omega
 rw[if_neg h2];by_cases h3:n.kd=3;have e:A=1:=by simp[arity,h3]at O;omega
 subst e;rw[rL];have:=gQ 31 (E.glob n.nm);have⟨I,H,J⟩:=h 0 o_ d l;simp only[h3,if_true,l_a,l_c,l_n];refine⟨?_,?_,?_⟩ <;> omega
 rw[if_neg h3];by_cases h4:n.kd=4;rw[if_pos h4];have⟨I,H,J⟩:=Ak (d:=d) A l h;simp only[DM,l_a,l_c,l_n,keepL_len,backL_len,rK];refine⟨?_,?_,?_⟩ <;> omega
 rw[if_neg h4];by_cases h5:n.kd=5;simp only[h5,if_true,l_a,l_c,l_n];refine⟨?_,?_,?_⟩ <;> omega
 rw[if_neg h5];by_cases h66:n.kd=6;have e:A=1:=by simp[arity,h66]at O;omega
 subst e;rw[rL];have:=G4 n.val (bw d 30) (bw d 30);have⟨I,H,J⟩:=h 0 o_ d l;simp only[h66,if_true,l_a,l_c,l_n];refine⟨?_,?_,?_⟩ <;> omega
 rw[if_neg h66];by_cases h7:n.kd=7;have e:A=2:=by simp[arity,h7]at O;omega
 subst e;rw[mH];have:=gW n.val (bw d 30) (bw d 30) (bw (d+1) 31);have⟨I,H,J⟩:=h 0 o_ d l;have⟨X,Y,Z⟩:=h 1 o_ (d+1) (G 0 d l).2;simp only[h7,if_true,l_a,l_c,l_n];refine⟨?_,?_,?_⟩ <;> omega
 rw[if_neg h7];have e:A=2:=by have Ja:n.kd=8\/n.kd=9:=o_;rcases Ja with hh|hh <;> (simp[arity,hh]at O;omega)
 subst e;rw[mH];have⟨I,H,J⟩:=h 0 o_ d (l+1);have⟨X,Y,Z⟩:=h 1 o_ d (G 0 d (l+1)).2;simp only[Aj,l_a,l_c,l_n];refine⟨?_,?_,?_⟩ <;> omega
def G5{e:List Nd}{b:Nat->Nat}(H:Cut e A b):(joinF (mE e b) A).length+1=e.length:=by have h:=congrArg List.length (pd H);simpa using h
end
section
open Go.RowKit
variable{q P ti n:Nat}{w w':AT}{v:BY}{c:Nat->BY}{l:List It}
def gJ(x:It):List BY:=[V x.kd,V x.ins.op,V x.ins.rd,V x.ins.s1,V x.ins.s2,V x.ins.im,V x.label]
def cq(l:List It):List BY:=l.flatMap gJ
theorem mI(l:List It):(cq l).length=l.length*7:=by
 induction l with
 | nil=>rfl
 | cons a r ih=>
  have:(cq (a::r)).length=7+(cq r).length:=by simp[cq,gJ];omega
  rw[this,ih,l_c];omega
def tF(a b:List It):cq (a++b)=cq a++cq b:=by simp[cq]
def ow(q:Nat)(w:AT)(P:Nat):Option Nat:=(w.cell? ⟨P,q,none⟩).bind ownBlock
structure Wq (q P:Nat) (w w':AT):Prop where
 still:w'.os=w.os/\w'.tape=w.tape/\w'.output=w.output
 size:w.heap.size<=w'.heap.size
 block:∀k,k<w.heap.size->k≠P->some k≠ow q w P->w'.heap[k]? =w.heap[k]?
 row:∀k,ow q w' P=some k->ow q w P=some k\/w.heap.size<=k
def Wq.refl(q P:Nat)(w:AT):Wq q P w w:=⟨⟨rfl,rfl,rfl⟩,n_,λ_ _ _ _=>rfl,λ_ h=>.inl h⟩
def Wq.trans{Ja:AT}(h:Wq q P w w')(H:Wq q P w' Ja):Wq q P w Ja:=by refine⟨⟨H.still.1.trans h.still.1,H.still.2.1.trans h.still.2.1,H.still.2.2.trans h.still.2.2⟩,t_ h.size H.size,λk h1 h2 h3=>?_,λk hk=>?_⟩;rw[H.block k (l_ h1 h.size) h2,h.block k h1 h2 h3];intro I;rcases h.row k I.symm with h4|h4;exact h3 h4.symm;omega;rcases H.row k hk with h4|h4;exact h.row k h4;exact .inr (t_ h.size h4)
def Wq.below(H:P<w.heap.size)(h:Bl w w'):Wq q P w w':=by refine⟨⟨h.os,h.tape,h.output⟩,h.size,λk h1 _ _=>h.block k h1,λk hk=>.inl ?_⟩;unfold ow at hk⊢;rw[h.cell (p:=⟨P,q,none⟩) H]at hk;exact hk
def Wq.cell(h:Wq q P w w'){k o:Nat}(hk:k≠P)(hr:some k≠ow q w P)(hc:Bo w k o v):Bo w' k o v:=
 (c_ (h.block k (b_ hc) hk hr)).trans hc
structure Em (ti q n P:Nat) (w:AT) (its:List It) (c:Nat->BY):Prop where
 lt:P<w.heap.size
 fz:∀o,w.frozen? ⟨P,o,none⟩=false
 row:∃v,w.cell? ⟨P,q,none⟩=some v/\w.ownsRow (P+1) ti 7 v its.length (cq its)
 oth:∀o,o<n->o≠q->w.cell? ⟨P,o,none⟩=some (c o)
def Em.below{its:List It}(h:Em ti q n P w its c)(H:Bl w w'):Em ti q n P w' its c:=by obtain⟨I,Y,⟨v,h2,h3⟩,h4⟩:=h;refine⟨l_ I H.size,λo=>(H.frozen (p:=⟨P,o,none⟩) I).trans (Y o),⟨v,(H.cell (p:=⟨P,q,none⟩) I).trans h2,?_⟩,λo ho hq=>(H.cell (p:=⟨P,o,none⟩) I).trans (h4 o ho hq)⟩;obtain⟨X,J⟩:=h3;refine⟨X,?_⟩;rcases J with J|⟨g,Jb,Ja,rfl,Z,O,U⟩;exact .inl J;refine .inr ⟨g,Jb,Ja,rfl,Z,?_,U⟩;rw[H.block g (Array.getElem?_eq_some_iff.1 O).1];exact O
def Al{m:List It}{v':BY}(hO:Em ti q n P w l c)(I:Bo w P q v)(Jc:w'.ownsRow (P+1) ti 7 v' (l.length+m.length) (cq l++cq m))(H:w.grownBy w' v.ownBlock)(Jh:∀k,v'.ownBlock=some k->v.ownBlock=some k\/w.heap.size<=k):
  By w' P q/\Bo w' P q v/\Em ti q n P (w'.setCell ⟨P,q,none⟩ v') (l++m) c/\Wq q P w (w'.setCell ⟨P,q,none⟩ v'):=by
 obtain⟨U,Y,⟨v0,h2,h3⟩,h4⟩:=hO;rw[I]at h2;simp only[If]at h2;subst h2;have Je:some P≠v.ownBlock:=λe=>by have:=(ownsRow.lt h3 P e.symm).1;omega
 have Jb:=H.block P U Je;have O:∀o,w'.cell? ⟨P,o,none⟩=w.cell? ⟨P,o,none⟩:=λo=>c_ (a:=⟨P,o,none⟩) Jb;have X:∀o,By w' P o:=λo=>(frozen?_of_block (a:=⟨P,o,none⟩) Jb).trans (Y o);have Jd:Bo (w'.setCell ⟨P,q,none⟩ v') P q v':=cell?_setCell_same _ _ _ ((O q).trans I);have Ja:∀k,k≠P->(w'.setCell ⟨P,q,none⟩ v').heap[k]? =w'.heap[k]? := λk hk=>Below.heap_setCell _ _ _ k (λh=>hk (D4 h));refine⟨X q,(O q).trans I,⟨?_,λo=>(frozen?_setCell _ _ _ _).trans (X o),⟨v',Jd,?_⟩,λo ho hq=>?_⟩,?_⟩
 simp only[size_setCell];exact l_ U H.size;rw[l_a,tF];obtain⟨g1,J⟩:=Jc;refine⟨g1,?_⟩;rcases J with J|⟨g,Jf,Jg,rfl,g3,Z,g5⟩;exact .inl J;refine .inr ⟨g,Jf,Jg,rfl,g3,?_,g5⟩;rw[Ja g o_];exact Z;rw[s_ _ _ _ _ (by intro h;simp only[Addr.mk.injEq]at h;exact hq h.2.1.symm),O o];exact h4 o ho hq;refine⟨⟨H.os,H.tape,H.output⟩,by simp only[size_setCell];exact H.size,λk k1 k2 k3=>?_,λk hk=>?_⟩;rw[Ja k k2,H.block k k1];intro e;apply k3;unfold ow;rw[I];exact e;unfold ow at hk⊢;rw[Jd]at hk;rw[I];simp only[Option.bind_some]at hk⊢;exact Jh k hk
def pj(hO:Em ti q n P w l c)(o:Nat)(ho:o<n)(Z:o≠q)(u:BY):Em ti q n P (w.setCell ⟨P,o,none⟩ u) l (λj=>if j=o then u else c j)/\Wq q P w (w.setCell ⟨P,o,none⟩ u):=by
 obtain⟨O,X,⟨v,h2,h3⟩,h4⟩:=hO;have Ja:∀k,k≠P->(w.setCell ⟨P,o,none⟩ u).heap[k]? =w.heap[k]? := λk hk=>Below.heap_setCell _ _ _ k (λh=>hk (D4 h));have Jc:Bo (w.setCell ⟨P,o,none⟩ u) P q v:=(s_ _ _ _ _ (by intro h;simp only[Addr.mk.injEq]at h;exact Z h.2.1)).trans h2;have Jb:=(Below.refl 0 w).setCell (p:=⟨P,o,none⟩) y_ u;refine⟨⟨D4 O,λj=>(frozen?_setCell _ _ _ _).trans (X j),⟨v,Jc,?_⟩,λj hj hjq=>?_⟩,⟨Jb.os,Jb.tape,Jb.output⟩,i_,λk _ k2 _=>Ja k k2,λk hk=>.inl ?_⟩
 obtain⟨J,H⟩:=h3;refine⟨J,?_⟩;rcases H with H|⟨g,Je,Jd,rfl,Y,I,U⟩;exact .inl H;refine .inr ⟨g,Je,Jd,rfl,Y,?_,U⟩;rw[Ja g o_];exact I;by_cases e:j=o;subst e;simp only[if_true];exact cell?_setCell_same _ _ _ (h4 j hj hjq);rw[if_neg e,s_ _ _ _ _ (by intro h;simp only[Addr.mk.injEq]at h;exact e h.2.1.symm)];exact h4 j hj hjq;unfold ow at hk⊢;rw[Jc]at hk;rw[h2];exact hk
end
end Go.Proofs.YtngnoopnloojjaaGreatDoor
