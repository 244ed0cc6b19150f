import Derived.Test.YtffnkkpmlplfeaaGreatDoorN00
namespace Go.Proofs.YtffnkkpmlplfeaaGreatDoor
set_option linter.all false
set_option maxRecDepth 100000
set_option maxHeartbeats 16000000
section
structure Nd where
 kind:Int
 val:Int
 name:ByteArray
structure St where
 kind:Int
 name:ByteArray
 e:List Nd
 f:List Nd
 thn:Int
 els:Int
structure Fu where
 name:ByteArray
 params:List ByteArray
 body:List St
structure Gl where
 name:ByteArray
 size:Int
structure Tr where
 globals:List Gl
 funcs:List Fu
def smallB (c:Int):Bool:=decide (97<=c/\c<=122∨c=95)
def digitB (c:Int):Bool:=decide (48<=c/\c<=57)
def laterB (c:Int):Bool:=smallB c || digitB c
def resB (s:ByteArray):Bool:=
 s.toList == [105,110,116] || s.toList == [105,102] || s.toList == [101,108,115,101] || s.toList == [119,104,105,108,101] || s.toList == [114,101,116,117,114,110] || s.toList == [105,110] || s.toList == [111,117,116]
def byteAt (s:ByteArray) (k:Nat):Int:=((s.data.toList.getD k 0).toNat:Int)
def laterTo (s:ByteArray) (k:Nat):Prop:=∀j,j<k->laterB (byteAt s j)=true
def nameP (s:ByteArray):Prop:=1<=s.size/\s.size<=20/\smallB (byteAt s 0)=true/\(∀j,j<s.size->laterB (byteAt s j)=true)/\resB s=false
def nameB (s : ByteArray) : Bool := @decide (nameP s) (inferInstanceAs (Decidable (1<=s.size/\s.size<=20/\smallB (byteAt s 0)=true/\(∀j,j<s.size->laterB (byteAt s j)=true)/\resB s=false)))
def arity (n:Nd):Int:=if n.kind=3∨n.kind=6 then 1 else if n.kind=4 then n.val else if n.kind=7∨n.kind=8∨n.kind=9 then 2 else 0
def nodeB (n:Nd):Bool:=
 if n.kind=1 then decide (-2147483648<=n.val/\n.val<=2147483647) && n.name.toList == []
 else if n.kind=2∨n.kind=3 then decide (n.val=0) && nameB n.name
 else if n.kind=4 then decide (0<=n.val/\n.val<=6) && nameB n.name
 else if n.kind=6 then decide (0<=n.val/\n.val<=2) && n.name.toList == []
 else if n.kind=7 then decide (0<=n.val/\n.val<=15) && n.name.toList == []
 else if n.kind=5∨n.kind=8∨n.kind=9 then decide (n.val=0) && n.name.toList == []
 else false
theorem arity_good {n:Nd} (h:nodeB n=true):0<=arity n/\arity n<=6:=by
 unfold nodeB at h;unfold arity;by_cases h4:n.kind=4
 ·simp[h4] at h ⊢;omega
 ·split <;> (try split) <;> (try split) <;> omega
def wholeTo:List Nd->Int->Option Int
 | [],k=>some k
 | n::r,k=>if nodeB n=true/\arity n<=k then wholeTo r (k+1-arity n) else none
def oneB (e:List Nd):Bool:=wholeTo e 0 == some 1
theorem kind_good {n:Nd} (h:nodeB n=true):1<=n.kind/\n.kind<=9:=by
 by_cases hk:n.kind<1∨9<n.kind
 ·unfold nodeB at h;rw[if_neg o_,if_neg o_,if_neg o_,if_neg o_,if_neg o_,if_neg o_] at h;cases h
 ·omega
theorem wholeTo_append (a b:List Nd) (k:Int):wholeTo (a++b) k=(wholeTo a k).bind (wholeTo b):=by
 induction a generalizing k with
 | nil=>rfl
 | cons n r ih=>
  simp only[List.cons_append,wholeTo];split
  ·exact ih _
  ·rfl
theorem wholeTo_bd (a:List Nd) (k q:Int) (h:wholeTo a k=some q) (hk:0<=k):0<=q/\q<=k+a.length:=by
 induction a generalizing k with
 | nil=>simp only[wholeTo,Option.some.injEq] at h;subst h;simp;omega
 | cons n r ih=>
  simp only[wholeTo] at h;split at h
  ·rename_i hn;have:=arity_good hn.1
   have:=ih _ h o_
   simp only[l_c];omega
  ·cases h
theorem take_succ {α:Type} (l:List α) (k:Nat) (h:k<l.length):l.take (k+1)=l.take k++[l[k]]:=by
 rw[List.take_succ_eq_append_getElem h]
theorem wholeTo_step (l:List Nd) (k:Nat) (q:Int) (h:k<l.length) (hq:wholeTo (l.take k) 0=some q) :
  wholeTo (l.take (k+1)) 0=if nodeB l[k]=true/\arity l[k]<=q then some (q+1-arity l[k]) else none:=by
 rw[take_succ l k h,wholeTo_append,hq];simp[wholeTo]
theorem oneB_none (l:List Nd) (k:Nat) (h:wholeTo (l.take k) 0=none):oneB l=false:=by
 have:wholeTo l 0=none:=by
  rw[<-List.take_append_drop k l,wholeTo_append,h];rfl
 simp[oneB,this]
theorem oneB_some (l:List Nd) (q:Int) (h:wholeTo (l.take l.length) 0=some q):oneB l=(q == 1):=by
 rw[List.take_length] at h;simp only[oneB,h];apply Bool.eq_iff_iff.2;simp
end
section
open Go.RowKit
namespace Ap
theorem w32_bd (a:Int) : -2147483648<=wrap32 a/\wrap32 a<=2147483647:=by unfold wrap32;omega
theorem w32_id (a:Int) (h : -2147483648<=a/\a<=2147483647):wrap32 a=a:=by unfold wrap32;omega
theorem w32_64 (a:Int):wrap32 (wrap64 a)=wrap32 a:=by unfold wrap32 wrap64;omega
theorem ofInt64 (x:Int) (h : -2147483648<=x/\x<=2147483647):BitVec.ofInt 64 x=(BitVec.ofInt 32 x).signExtend 64:=by
 apply BitVec.eq_of_toInt_eq;rw[BitVec.toInt_signExtend_of_le (by decide),BitVec.toInt_ofInt,BitVec.toInt_ofInt];rw[Int.bmod_eq_of_le o_ o_,Int.bmod_eq_of_le o_ o_]
theorem wrap_toNat32 (v:BitVec 32):IntKind.i32.wrap (v.toNat:Int)=v.toInt:=by
 have:=v.isLt
 rw[IntKind.wrap_i32,BitVec.toInt_eq_toNat_cond];split <;> omega
theorem wrap_toNat64 (v:BitVec 64):IntKind.i64.wrap (v.toNat:Int)=v.toInt:=by
 have:=v.isLt
 rw[IntKind.wrap_i64,BitVec.toInt_eq_toNat_cond];split <;> omega
theorem bits_and (x y:Int) (hx : -2147483648<=x/\x<=2147483647) (hy : -2147483648<=y/\y<=2147483647):bits .and .i64 x y=bits .and .i32 x y:=by
 show IntKind.i64.wrap ((BitVec.ofInt 64 x &&& BitVec.ofInt 64 y).toNat:Int)=IntKind.i32.wrap ((BitVec.ofInt 32 x &&& BitVec.ofInt 32 y).toNat:Int);rw[wrap_toNat32,wrap_toNat64,ofInt64 x hx,ofInt64 y hy,<-BitVec.signExtend_and,BitVec.toInt_signExtend_of_le (by decide)]
theorem bits_or (x y:Int) (hx : -2147483648<=x/\x<=2147483647) (hy : -2147483648<=y/\y<=2147483647):bits .or .i64 x y=bits .or .i32 x y:=by
 show IntKind.i64.wrap ((BitVec.ofInt 64 x ||| BitVec.ofInt 64 y).toNat:Int)=IntKind.i32.wrap ((BitVec.ofInt 32 x ||| BitVec.ofInt 32 y).toNat:Int);rw[wrap_toNat32,wrap_toNat64,ofInt64 x hx,ofInt64 y hy,<-BitVec.signExtend_or,BitVec.toInt_signExtend_of_le (by decide)]
theorem bits_xor (x y:Int) (hx : -2147483648<=x/\x<=2147483647) (hy : -2147483648<=y/\y<=2147483647):bits .xor .i64 x y=bits .xor .i32 x y:=by
 show IntKind.i64.wrap ((BitVec.ofInt 64 x ^^^ BitVec.ofInt 64 y).toNat:Int)=IntKind.i32.wrap ((BitVec.ofInt 32 x ^^^ BitVec.ofInt 32 y).toNat:Int);rw[wrap_toNat32,wrap_toNat64,ofInt64 x hx,ofInt64 y hy,<-BitVec.signExtend_xor,BitVec.toInt_signExtend_of_le (by decide)]
theorem bits_bd (op:BinOp) (x y:Int) : -2147483648<=bits op .i32 x y/\bits op .i32 x y<=2147483647:=by
 unfold bits;dsimp only;rw[IntKind.wrap_i32];omega
theorem tdiv_bd (x y:Int) (hx : -2147483648<=x/\x<=2147483647) : -2147483648<=x.tdiv y/\x.tdiv y<=2147483648:=by
 have h:(x.tdiv y).natAbs<=x.natAbs:=by rw[Int.natAbs_tdiv];exact Nat.div_le_self _ _
 omega
theorem tmod_bd (x y:Int) (hx : -2147483648<=x/\x<=2147483647) : -2147483648<=x.tmod y/\x.tmod y<=2147483647:=by
 have h:(x.tmod y).natAbs<=x.natAbs:=by rw[Int.natAbs_tmod];exact Nat.mod_le _ _
 rcases Int.le_total 0 x with h0|h0
 ·have:=Int.tmod_nonneg y h0;omega
 ·obtain⟨z,rfl⟩ : ∃z,x = -z:=⟨-x,by omega⟩;rw[Int.neg_tmod] at *;have:=Int.tmod_nonneg y (show 0<=z by omega);omega
theorem mul_bd (x y:Int) (hx : -2147483648<=x/\x<=2147483647) (hy : -2147483648<=y/\y<=2147483647) : -4611686018427387904<=x*y/\x*y<=4611686018427387904:=by
 have h:(x*y).natAbs<=2147483648*2147483648:=by rw[Int.natAbs_mul];exact Nat.mul_le_mul o_ o_
 omega
theorem sh_eq2 (y:Int):(y.tmod 32+32) % 32=y % 32:=by
 rcases Int.le_total 0 y with h|h
 ·rw[Int.tmod_eq_emod_of_nonneg h];omega
 ·obtain⟨z,rfl⟩ : ∃z,y = -z:=⟨-y,by omega⟩;rw[Int.neg_tmod,Int.tmod_eq_emod_of_nonneg o_];omega
theorem tmod32_bd (y:Int) : -31<=y.tmod 32/\y.tmod 32<=31:=by
 have h:(y.tmod 32).natAbs<=31:=by rw[Int.natAbs_tmod];have:=Nat.mod_lt y.natAbs (show 0<(32:Int).natAbs by decide);simp at *;omega
 omega
theorem w64_32 (z:Int):wrap64 (wrap32 z)=wrap32 z:=by unfold wrap32 wrap64;omega
theorem tm32 (y:Int):y.tmod 32 % 32=y % 32:=by have:=sh_eq2 y;omega
theorem w64_div (x:Int) (n:Nat) (hx : -2147483648<=x/\x<=2147483647):wrap64 (x / 2 ^ n)=x / 2 ^ n:=by
 have h:=Int.natAbs_ediv_le_natAbs x (2 ^ n);unfold wrap64;omega
theorem ret_intA {k:IntKind} {a b:Int} (h:a=b):Ending.returned (.int k a)=.returned (.int k b):=by rw[h]
end Ap
end
section
open Go.RowKit
variable {S T:Nat->Prop} {a b c w w':World}
structure Tcs (S:Nat->Prop) (W w':World):Prop where
 os:w'.os=W.os
 tape:w'.tape=W.tape
 output:w'.output=W.output
 size:W.heap.size<=w'.heap.size
 block : ∀k,k<W.heap.size->¬S k->w'.heap[k]? = W.heap[k]?
theorem Tcs.refl (S:Nat->Prop) (W:World):Tcs S W W:=⟨rfl,rfl,rfl,n_,λ_ _ _=>rfl⟩
theorem Tcs.trans (h:Tcs S a b) (k:Tcs S b c):Tcs S a c:=
 ⟨k.os.trans h.os,k.tape.trans h.tape,k.output.trans h.output,t_ h.size k.size,λi hi hg=>(k.block i (l_ hi h.size) hg).trans (h.block i hi hg)⟩
theorem Tcs.next (h:Tcs S a b) (k:Tcs T b c) (hT : ∀x,T x->S x∨a.heap.size<=x):Tcs S a c:=
 ⟨k.os.trans h.os,k.tape.trans h.tape,k.output.trans h.output,t_ h.size k.size,λi hi hg=>(k.block i (l_ hi h.size) (λt=>by rcases hT i t with x|x;exact hg x;omega)).trans (h.block i hi hg)⟩
theorem Tcs.mono (h:Tcs S a b) (hs : ∀k,S k->T k):Tcs T a b:=
 ⟨h.os,h.tape,h.output,h.size,λk hk hn=>h.block k hk λs=>hn (hs k s)⟩
theorem Tcs.drew (h:Tcs S a w):Tcs S a w.drew:=h.trans ⟨rfl,rfl,rfl,n_,λ_ _ _=>rfl⟩
theorem Tcs.setCell (h:Tcs S a w) {p:Addr} (hp:S p.block) (u:Value):Tcs S a (w.setCell p u):=
 h.trans ⟨rfl,rfl,rfl,by simp,λk _ hk=>Below.heap_setCell w p u k λe=>hk (e ▸ hp)⟩
theorem Tcs.of_below (h:Tcs S a w) (hb:Below w.heap.size w w'):Tcs S a w':=
 h.trans ⟨hb.os,hb.tape,hb.output,hb.size,λk hk _=>hb.block k hk⟩
theorem Tcs.below {B:Nat} (h:Tcs S w w') (hb:Below B a w) (hB:B<=w.heap.size) (hg : ∀k,S k->B<=k):Below B a w':=
 ⟨h.os.trans hb.os,h.tape.trans hb.tape,h.output.trans hb.output,t_ hb.size h.size,λk hk=>(h.block k o_ (λs=>by have:=hg k s;omega)).trans (hb.block k hk)⟩
theorem Tcs.of_grown {row:Option Nat} (hg:a.grownBy w row) (hr : ∀k,row=some k->S k):Tcs S a w:=
 ⟨hg.os,hg.tape,hg.output,hg.size,λk hk hn=>hg.block k hk (λe=>hn (hr k e.symm))⟩
theorem _root_.Go.RowKit.Below.tcs (h:Below a.heap.size a w):Tcs S a w:=⟨h.os,h.tape,h.output,h.size,λk hk _=>h.block k hk⟩
end
section
open Go.RowKit
section
variable {P:Program} {w:World}
theorem app_freshG (base:Nat) (t ty e:TypeId) (i:TypeInfo) (z:Value) (size bytes:Nat) (ht:P.underlying t=some (.slice e)) (hi:P.info? e=some i) (hz:i.zero=some z)
  (hsize:i.size=size) (hby:i.bytes=bytes) (hzs:z.cells.size=size) (hsz:0<size)
  (v:Value) (n:Nat) (xs:List Value) (hown:w.ownsRow base e size v n xs)
  (a:Addr) (m c:Nat) (news:List Value) (hl:news.length=m*size) (hnews : ∀j u,news[j]? = some u->w.cell? (a.add j)=some u) (h1 : ∀u∈news,u.oneCell'=true)
  (hm:n+m<=10000000) (hbb:bytes<=1000) (hbase:base<=w.heap.size) :
  ∃v' w',(Builtin.append_ #[t,t] ty #[v,.slice (some a) m c]).run P w=.ok v' w'/\w'.ownsRow base e size v' (n+m) (xs++news)/\w.grownBy w' v.ownBlock/\∀k,v'.ownBlock=some k->v.ownBlock=some k∨w.heap.size<=k:=by
 have hbytes:(n+m)*bytes<=140737488355328:=by
  have:(n+m)*bytes<=10000000*1000:=Nat.mul_le_mul hm hbb
  omega
 have h63:n+m<=maxLen:=by unfold maxLen;omega
 obtain⟨v',w',r1,r2,r3,r4⟩:=run_append_own (P:=P) w base t ty e i z size bytes ht hi hz hsize hby hzs hsz v n xs hown a m c news hl hnews h1 h63 hbytes hbase;refine⟨v',w',r1,r2,r3,λk hk => ?_⟩;have hown0:=hown;rcases hown.2 with ⟨rfl,rfl⟩|⟨g,cap,cur,rfl,hbg,hg,hnc,hcm,hcs,htake⟩
 ·have hx:xs = []:=List.eq_nil_of_length_eq_zero (by have:=hown.1;simpa using this);subst hx;obtain⟨v2,w2,g1,g2,_⟩:=run_append_own (P:=P) w w.heap.size t ty e i z size bytes ht hi hz hsize hby hzs hsz (.slice none 0 0) 0 [] (World.ownsRow_nil _ _ _ _) a m c news hl hnews h1 h63 hbytes n_;rw[r1] at g1;simp only[Result.ok.injEq] at g1;obtain⟨rfl,rfl⟩:=g1;exact .inr (g2.lt k hk).1
 ·by_cases hroom:n+m<=cap
  ·have hfit:n*i.size+news.length<=cur.size:=by
    rw[hsize,hl,hcs,<-Nat.add_mul];exact Nat.mul_le_mul_right _ hroom
   have hr:=run_append_room (P:=P) w t ty e i ht hi g n cap cur hg a m c news (by rw[hsize];exact hl) hnews h1 hroom hfit;rw[r1] at hr;simp only[Result.ok.injEq] at hr;obtain⟨rfl,rfl⟩:=hr;exact .inl hk
  ·have holds : ∀j u,xs[j]? = some u->w.cell? ((⟨g,0,none⟩:Addr).add j)=some u:=hown0.cells (g:=g) rfl;have hr:=run_append_grow (P:=P) w t ty e i z ht hi hz ⟨g,0,none⟩ n cap xs (by rw[hsize];exact hown0.1) holds a m c news (by rw[hsize];exact hl) hnews o_ o_ (by rw[hby];exact growslice_fits o_ o_);rw[r1] at hr;simp only[Result.ok.injEq] at hr;obtain⟨rfl,rfl⟩:=hr;simp only[Value.ownBlock,Option.some.injEq] at hk;exact .inr o_
theorem wpList_appF {ops:Array Oper} {rest:List Oper} {o:Oper} {a:Act} {Q:Exit->Act->World->Prop} (hgd:o.guard=none) (s x:Operand) (t:TypeId)
  (ho:o.op=.call {callee:=.builtin .append,args:=#[s,x],argTypes:=#[t,t]})
  (base:Nat) (e:TypeId) (i:TypeInfo) (z:Value) (size bytes:Nat) (ht:P.underlying t=some (.slice e)) (hi:P.info? e=some i) (hz:i.zero=some z)
  (hsize:i.size=size) (hby:i.bytes=bytes) (hzs:z.cells.size=size) (hsz:0<size)
  (v:Value) (n:Nat) (xs:List Value) (hs:a.eval s=v) (hown:w.ownsRow base e size v n xs)
  (ad:Addr) (m c:Nat) (news:List Value) (hx:a.eval x=.slice (some ad) m c) (hl:news.length=m*size) (hnews : ∀j u,news[j]? = some u->w.cell? (ad.add j)=some u) (h1 : ∀u∈news,u.oneCell'=true)
  (hm:n+m<=10000000) (hbb:bytes<=1000) (hbase:base<=w.heap.size)
  (h : ∀v' w',w'.ownsRow base e size v' (n+m) (xs++news)->w.grownBy w' v.ownBlock->(∀k,v'.ownBlock=some k->v.ownBlock=some k∨w.heap.size<=k)->wpList P ops Q rest (a.put o.dst v') w'):wpList P ops Q (o::rest) a w:=by
 refine wpList_plain hgd λK hK => ?_;obtain⟨v',w',hr,h2,h3,h4⟩:=app_freshG (P:=P) (w:=w) base t o.type e i z size bytes ht hi hz hsize hby hzs hsz v n xs hown ad m c news hl hnews h1 hm hbb hbase;unfold Oper.wp execOp;simp only[ho,resolve,invoke,builtin,Sem.run_bind,Sem.run_pure,Result.andThen_ok,List.map_toArray,List.map_cons,List.map_nil,hs,hx,hr];exact hK _ _ (h v' w' h2 h3 h4)
end
end
theorem loop_nil (s:ByteArray) (n:Nat) : ∀i r,s.size-i=n->ByteArray.toList.loop s i r = []->r = []:=by
 induction n with
 | zero=>
  intro i r hi h;rw[ByteArray.toList.loop,if_neg o_] at h;simpa using h
 | succ n ih=>
  intro i r hi h;rw[ByteArray.toList.loop,if_pos o_] at h;have:=ih (i+1) _ o_ h
  simp at this
theorem nil_size {s:ByteArray} (h:s.toList = []):s.size=0:=by
 rcases Nat.eq_zero_or_pos s.size with h0|hp
 ·exact h0
 ·rw[ByteArray.toList,ByteArray.toList.loop,if_pos hp] at h;have:=loop_nil s _ _ _ rfl h
  simp at this
theorem name_len {n:Nd} (h:nodeB n=true):n.name.size<=20:=by
 have hn : ∀s,nameB s=true->s.size<=20:=by
  intro s hs;have:nameP s:=by simpa[nameB] using hs
  exact this.2.1
 have h0:n.name.toList = []->n.name.size<=20:=by
  intro h;rw[nil_size h];decide
 unfold nodeB at h;split at h <;> (try split at h) <;> (try split at h) <;> (try split at h) <;> (try split at h) <;> (try split at h) <;> simp at h;all_goals first|exact hn _ h.2|exact h0 h.2|(apply h0;simp[h.2])
section
variable {l:List Nd}
def defc:List Nd->Int
 | []=>1
 | n::r=>defc r+arity n-1
def goodAll (l:List Nd):Prop:=∀n∈l,nodeB n=true
theorem wholeTo_iff (l:List Nd) (hg:goodAll l) (k:Int):wholeTo l k=some 1↔defc l=k/\∀j,1<=j->j<=l.length->1<=defc (l.drop j):=by
 induction l generalizing k with
 | nil=>
  simp only[wholeTo,Option.some.injEq,defc,l_n,List.drop_nil];constructor
  ·rintro rfl;exact⟨rfl,λj _ _=>Int.le_refl _⟩
  ·rintro ⟨rfl,_⟩;rfl
 | cons n r ih=>
  have hn:nodeB n=true:=hg n (by simp);have ih':=ih (λm hm=>hg m (by simp[hm]));simp only[wholeTo,hn,true_and];by_cases ha:arity n<=k
  ·rw[if_pos ha,ih',defc];constructor
   ·rintro ⟨h1,h2⟩;refine⟨by omega,λj hj1 hj2 => ?_⟩;obtain⟨j',rfl⟩ : ∃j',j=j'+1:=⟨j-1,by omega⟩;rw[List.drop_succ_cons];rcases Nat.eq_zero_or_pos j' with rfl|hp
    ·rw[List.drop_zero];omega
    ·exact h2 j' hp (by simpa using hj2)
   ·rintro ⟨h1,h2⟩;refine⟨by omega,λj hj1 hj2 => ?_⟩;have:=h2 (j+1) o_ (by simpa using hj2)
    rwa [List.drop_succ_cons] at this
  ·rw[if_neg ha];constructor
   ·intro h;cases h
   ·rintro ⟨h1,h2⟩;exfalso
    have:=h2 1 n_ (by simp)
    simp only[List.drop_succ_cons,List.drop_zero] at this;simp only[defc] at h1;omega
theorem wholeTo_good (l:List Nd) (k q:Int) (h:wholeTo l k=some q):goodAll l:=by
 induction l generalizing k with
 | nil=>intro n hn;cases hn
 | cons m r ih=>
  simp only[wholeTo] at h;split at h
  ·rename_i hm;intro n hn;rcases List.mem_cons.1 hn with rfl|hn
   ·exact hm.1
   ·exact ih _ h n hn
  ·cases h
theorem oneB_iff (l:List Nd):oneB l=true↔goodAll l/\defc l=0/\∀j,1<=j->j<=l.length->1<=defc (l.drop j):=by
 constructor
 ·intro h;have h':wholeTo l 0=some 1:=by simpa[oneB] using h
  have hg:=wholeTo_good l 0 1 h';exact⟨hg,(wholeTo_iff l hg 0).1 h'⟩
 ·rintro ⟨hg,h⟩;have:=(wholeTo_iff l hg 0).2 h
  simp[oneB,this]
def fromP (l:List Nd) (r:Int):Prop:=
 (∃i:Nat,r=i/\i<l.length/\defc (l.drop i)=0/\∀j,i<j->j<=l.length->1<=defc (l.drop j))∨(r = -1/\∀j,j<=l.length->1<=defc (l.drop j))
theorem fromP_one {r:Int} (hg:goodAll l) (h:fromP l r):(r == 0)=oneB l:=by
 apply Bool.eq_iff_iff.2;rw[oneB_iff];simp only[beq_iff_eq];rcases h with ⟨i,rfl,hi,h0,hj⟩|⟨rfl,hj⟩
 ·constructor
  ·intro h;obtain rfl:i=0:=by omega
   exact⟨hg,by simpa using h0,λj h1 h2=>hj j o_ h2⟩
  ·rintro ⟨_,_,h⟩;rcases Nat.eq_zero_or_pos i with rfl|hp
   ·rfl
   ·have:=h i hp o_;omega
 ·constructor
  ·intro h;omega
  ·rintro ⟨_,h,_⟩;have:=hj 0 y_
   rw[List.drop_zero] at this;omega
theorem defc_drop (l:List Nd) (i:Nat) (h:i<l.length):defc (l.drop i)=defc (l.drop (i+1))+arity l[i]-1:=by
 rw[List.drop_eq_getElem_cons h,defc]
theorem defc_le (l:List Nd) (hg:goodAll l):defc l<=1+6*l.length:=by
 induction l with
 | nil=>simp[defc]
 | cons n r ih=>
  have:=ih (λm hm=>hg m (by simp[hm]))
  have:=arity_good (hg n (by simp))
  simp only[defc,l_c];omega
theorem goodAll_drop (hg:goodAll l) (i:Nat):goodAll (l.drop i):=λn hn=>hg n (List.mem_of_mem_drop hn)
end
section
variable {e:List Nd}
def begP (ns:List Nd) (k i:Nat):Prop:=i<k/\defc ((ns.take k).drop i)=0/\∀j,i<j->j<=k->1<=defc ((ns.take k).drop j)
theorem whole_defc (l:List Nd) (k q:Int) (h:wholeTo l k=some q):defc l=1+k-q:=by
 induction l generalizing k with
 | nil=>simp only[wholeTo,Option.some.injEq] at h;subst h;simp[defc]
 | cons n r ih=>
  simp only[wholeTo] at h;split at h
  ·have:=ih _ h
   simp only[defc];omega
  ·cases h
theorem whole_take (l:List Nd) (k q:Int) (h:wholeTo l k=some q) (j:Nat) : ∃p,wholeTo (l.take j) k=some p/\wholeTo (l.drop j) p=some q:=by
 rw[<-List.take_append_drop j l,wholeTo_append] at h;cases e:wholeTo (l.take j) k with
 | none=>rw[e] at h;cases h
 | some p=>rw[e] at h;exact⟨p,rfl,h⟩
theorem whole_pos (l:List Nd) (q:Int) (hl:0<l.length) (h:wholeTo l 0=some q):1<=q:=by
 obtain⟨m,hm⟩ : ∃m,l.length=m+1:=⟨l.length-1,by omega⟩;obtain⟨p,h1,h2⟩:=whole_take l 0 q h m;have:=wholeTo_step l m p o_ h1
 rw[<-hm,List.take_length,h] at this;split at this
 ·rename_i hh;simp only[Option.some.injEq] at this;omega
 ·cases this
theorem whole_one (l:List Nd) (p:Int) (h:wholeTo l 0=some p) (m:Nat) (hm:l.length=m+1) (i:Nat) (hi:i<l.length) (a:Int) (ha:wholeTo (l.take i) 0=some a) : ∃c,wholeTo (l.take (i+1)) 0=some c/\c<=a+1:=by
 obtain⟨c,h1,h2⟩:=whole_take l 0 p h (i+1);have:=wholeTo_step l i a hi ha
 rw[h1] at this;split at this
 ·rename_i hh;have:=arity_good hh.1
  simp only[Option.some.injEq] at *;exact⟨c,h1,by omega⟩
 ·cases this
theorem whole_cut (l:List Nd) (c:Int) (hc:0<=c) (h:wholeTo l 0=some (c+1)) : ∃i,i<l.length/\wholeTo (l.take i) 0=some c/\∀j,i<j->j<=l.length->∃p,wholeTo (l.take j) 0=some p/\c+1<=p:=by
 have hl:0<l.length:=by
  cases l with
  | nil=>simp only[wholeTo,Option.some.injEq] at h;omega
  | cons=>simp
 obtain⟨m,hm⟩ : ∃m,l.length=m+1:=⟨l.length-1,by omega⟩;have key : ∀d,d<=l.length->(∃i,l.length-d<=i/\i<l.length/\wholeTo (l.take i) 0=some c/\∀j,i<j->j<=l.length->∃p,wholeTo (l.take j) 0=some p/\c+1<=p)∨(∀j,l.length-d<=j->j<=l.length->∃p,wholeTo (l.take j) 0=some p/\c+1<=p):=by
  intro d;induction d with
  | zero=>
   intro _;refine .inr λj h1 h2 => ?_;obtain rfl:j=l.length:=by omega
   rw[List.take_length];exact⟨_,h,Int.le_refl _⟩
  | succ d ih=>
   intro hd;rcases ih o_ with ⟨i,h1,h2⟩|hall
   ·exact .inl ⟨i,by omega,h2⟩
   ·obtain⟨a,ha,_⟩:=whole_take l 0 _ h (l.length-(d+1));obtain⟨c',h1,h2⟩:=whole_one l _ h m hm (l.length-(d+1)) o_ a ha;obtain⟨p,hp,hp2⟩:=hall (l.length-(d+1)+1) o_ o_;rw[h1] at hp;simp only[Option.some.injEq] at hp;by_cases e:a=c
    ·subst e;exact .inl ⟨_,n_,by omega,ha,λj h3 h4=>hall j o_ h4⟩
    ·refine .inr λj h3 h4 => ?_;by_cases e2:j=l.length-(d+1)
     ·subst e2;exact⟨a,ha,by omega⟩
     ·exact hall j o_ h4
 rcases key l.length n_ with ⟨i,_,h1⟩|hall
 ·exact⟨i,h1⟩
 ·obtain⟨p,hp,hp2⟩:=hall 0 o_ o_;simp only[List.take_zero,wholeTo,Option.some.injEq] at hp;omega
theorem whole_beg (e:List Nd) (k:Nat) (c:Int) (hk:k<=e.length) (hc:0<=c) (h:wholeTo (e.take k) 0=some (c+1)) :
  ∃i,begP e k i/\wholeTo (e.take i) 0=some c/\oneB ((e.take k).drop i)=true:=by
 have hlen:(e.take k).length=k:=by simp;omega
 obtain⟨i,h1,h2,h3⟩:=whole_cut (e.take k) c hc h;rw[hlen] at h1 h3;have hd : ∀j,j<=k->∀p,wholeTo ((e.take k).take j) 0=some p->defc ((e.take k).drop j)=p-c:=by
  intro j hj p hp;obtain⟨p',g1,g2⟩:=whole_take (e.take k) 0 _ h j;rw[hp] at g1;simp only[Option.some.injEq] at g1;subst g1;have:=whole_defc _ _ _ g2
  omega
 have hb:begP e k i:=by
  refine⟨h1,?_,λj g1 g2 => ?_⟩
  ·rw[hd i o_ c h2];omega
  ·obtain⟨p,hp,hp2⟩:=h3 j g1 g2;rw[hd j g2 p hp];omega
 refine⟨i,hb,?_,?_⟩
 ·rw[List.take_take,Nat.min_eq_left o_] at h2;exact h2
 ·rw[oneB_iff];refine⟨λn hn=>wholeTo_good _ _ _ h n (List.mem_of_mem_drop hn),hb.2.1,λj g1 g2 => ?_⟩;rw[List.drop_drop];simp only[List.length_drop,hlen] at g2;exact hb.2.2 (i+j) o_ o_
def nd0:Nd:=⟨1,0,⟨#[]⟩⟩
def rootN (e:List Nd):Nd:=e.getD (e.length-1) nd0
structure Cut (e:List Nd) (A:Nat) (b:Nat->Nat):Prop where
 len:0<e.length
 ar:arity (rootN e)=A
 good:goodAll e
 last:b A=e.length-1
 first:b 0=0
 beg : ∀i,i<A->begP e (b (i+1)) (b i)
def kid (e:List Nd) (b:Nat->Nat) (i:Nat):List Nd:=(e.take (b (i+1))).drop (b i)
theorem cuts_down (e:List Nd) (he:0<e.length) (A:Nat) : ∀k,k<=e.length->wholeTo (e.take k) 0=some (A:Int)->∃b:Nat->Nat,b A=k/\b 0=0/\∀i,i<A->begP e (b (i+1)) (b i)/\oneB (kid e b i)=true:=by
 induction A with
 | zero=>
  intro k hk h;refine⟨λ_=>0,?_,rfl,λi hi=>absurd hi o_⟩;rcases Nat.eq_zero_or_pos k with rfl|hp
  ·rfl
  ·have:=whole_pos (e.take k) _ (by simp;omega) h
   omega
 | succ A ih=>
  intro k hk h;obtain⟨i,h1,h2,h3⟩:=whole_beg e k A hk o_ (by rw[h];rfl);obtain⟨b,g1,g2,g3⟩:=ih i (by have:=h1.1;omega) h2;refine⟨λj=>if j=A+1 then k else b j,by simp,by simp[g2],λj hj => ?_⟩;by_cases e1:j=A
  ·subst e1;simp only[kid,if_true,Nat.succ_ne_self,if_neg (show ¬j=j+1 by omega),g1];exact⟨h1,h3⟩
  ·have:=g3 j o_
   simp only[kid,if_neg (show ¬j=A+1 by omega),if_neg (show ¬j+1=A+1 by omega)];exact this
theorem rootN_eq (e:List Nd) (h:0<e.length):rootN e=e[e.length-1]' o_:=by
 simp[rootN,List.getD,List.getElem?_eq_getElem (show e.length-1<e.length by omega)]
theorem one_pos (h:oneB e=true):0<e.length:=by
 cases e with
 | nil=>simp[oneB,wholeTo] at h
 | cons=>simp
theorem one_good (h:oneB e=true):goodAll e:=((oneB_iff e).1 h).1
theorem one_root (h:oneB e=true):nodeB (rootN e)=true:=by
 rw[rootN_eq e (one_pos h)];exact one_good h _ (g_ _)
theorem one_cuts (h:oneB e=true) : ∃A b,Cut e A b/\∀i,i<A->oneB (kid e b i)=true:=by
 have hl:=one_pos h;have h':wholeTo e 0=some 1:=by simpa[oneB] using h
 obtain⟨q,h1,h2⟩:=whole_take e 0 1 h' (e.length-1);have hs:=wholeTo_step e (e.length-1) q o_ h1;rw[show e.length-1+1=e.length by omega,List.take_length,h'] at hs;split at hs
 ·simp only[Option.some.injEq] at hs;have hb:=arity_good (one_root h);rw[rootN_eq e hl] at hb;obtain⟨A,hA⟩ : ∃A:Nat,q=A:=⟨q.toNat,by omega⟩;subst hA;obtain⟨b,g1,g2,g3⟩:=cuts_down e hl A (e.length-1) o_ h1;exact⟨A,b,⟨hl,by rw[rootN_eq e hl];omega,one_good h,g1,g2,λi hi=>(g3 i hi).1⟩,λi hi=>(g3 i hi).2⟩
 ·cases hs
end
section
open Go.RowKit
variable {w w':World} {g:Nat} {xs:List Value}
def FrC (w:World) (g:Nat) (xs:List Value):Prop:=∀j x,xs[j]? = some x->w.cell? ⟨g,j,none⟩=some x/\w.frozen? ⟨g,j,none⟩=false
theorem FrC.set (h:FrC w g xs) (i:Nat) (u:Value):FrC (w.setCell ⟨g,i,none⟩ u) g (xs.set i u):=by
 intro j x hx;rw[World.frozen?_setCell];by_cases e:i=j
 ·subst e;have hl:=(List.getElem?_eq_some_iff.1 hx).1;rw[List.length_set] at hl;rw[List.getElem?_set_self hl] at hx;obtain⟨c,f⟩:=h i xs[i] (List.getElem?_eq_getElem hl);refine⟨?_,f⟩;rw[World.cell?_setCell_same _ _ _ c];exact hx
 ·rw[List.getElem?_set_ne e] at hx;obtain⟨c,f⟩:=h j x hx;refine⟨?_,f⟩;rw[s_ _ _ _ _ (by intro h;simp only[Addr.mk.injEq] at h;omega)];exact c
theorem FrC.keep (h:FrC w g xs) (e:w'.heap[g]? = w.heap[g]?):FrC w' g xs:=λj x hx=>by
 obtain⟨c,f⟩:=h j x hx;exact⟨(c_ (a:=⟨g,j,none⟩) e).trans c,(World.frozen?_of_block (a:=⟨g,j,none⟩) e).trans f⟩
theorem FrC.below (h:FrC w g xs) (hb:Below w.heap.size w w'):FrC w' g xs:=λj x hx=>by
 obtain⟨c,f⟩:=h j x hx;have hlt:=b_ c;exact⟨(hb.cell (p:=⟨g,j,none⟩) hlt).trans c,(hb.frozen (p:=⟨g,j,none⟩) hlt).trans f⟩
theorem FrC.tcs {S:Nat->Prop} (h:FrC w g xs) (hl:g<w.heap.size) (ht:Tcs S w w') (hn : ¬S g):FrC w' g xs:=h.keep (ht.block g hl hn)
theorem box_fr (w:World) (cs:Array Value) (t:TypeId) (hm:cs.size<=1000):FrC (w.alloc (.cells cs t)) w.heap.size cs.toList:=by
 intro j x hj;have h:(w.alloc (.cells cs t)).ownsRow w.heap.size t 1 (.slice (some ⟨w.heap.size,0,none⟩) cs.size cs.size) cs.size cs.toList:=World.ownsRow_lit w cs cs.size n_ (by unfold maxLen;omega) o_;have hc:=World.ownsRow.cells h (g:=w.heap.size) rfl j x hj;have e:(⟨w.heap.size,0,none⟩:Addr).add j=⟨w.heap.size,j,none⟩:=by
  simp[Addr.add];try (intro h;omega)
 rw[e] at hc;refine⟨hc,?_⟩;rcases h.2 with ⟨e,-⟩|⟨g,cap,cur,e,h3,h4,h5⟩
 ·simp at e
 ·simp only[Value.slice.injEq,Option.some.injEq,Addr.mk.injEq] at e;obtain⟨⟨rfl,-,-⟩,-,-⟩:=e;unfold World.frozen?;simp only[h4];simp
end
def lastKind (e:List Nd):Int:=match e[e.length-1]? with|some n=>n.kind|none=>0
def stmtB (s:St):Bool:=
 decide (1<=s.kind/\s.kind<=8) && (if s.kind<=3 then nameB s.name else s.name.toList == []) && oneB s.e && (if s.kind=3 then oneB s.f else s.f.length == 0) && (decide (s.kind≠8) || lastKind s.e == 4) && (decide (s.kind=4∨s.kind=5) || s.thn == 0) && (decide (s.kind=4) || s.els == 0)
theorem oneB_pos {l:List Nd} (h:oneB l=true):0<l.length:=by
 cases l with
 | nil=>simp[oneB,wholeTo] at h
 | cons n r=>simp
section
variable {e:List Nd} {A:Nat} {b:Nat->Nat}
theorem Cut.le (h:Cut e A b) : ∀d,d<=A->b (A-d)<=e.length-1:=by
 intro d;induction d with
 | zero=>intro _;rw[Nat.sub_zero,h.last];exact n_
 | succ d ih=>
  intro hd;have:=ih o_
  have h2:=(h.beg (A-(d+1)) o_).1;rw[show A-(d+1)+1=A-d by omega] at h2;omega
theorem Cut.le' (h:Cut e A b) (i:Nat) (hi:i<=A):b i<=e.length-1:=by
 have:=h.le (A-i) o_
 rwa [show A-(A-i)=i by omega] at this
theorem Cut.kid_len (h:Cut e A b) (i:Nat) (hi:i<A):(kid e b i).length=b (i+1)-b i:=by
 have:=h.le' (i+1) o_
 simp[kid];omega
theorem Cut.kid_lt (h:Cut e A b) (i:Nat) (hi:i<A):(kid e b i).length<e.length:=by
 rw[h.kid_len i hi];have:=h.le' (i+1) o_
 have:=h.len
 omega
theorem Cut.root_good (h:Cut e A b):nodeB (rootN e)=true:=by
 rw[rootN_eq e h.len];exact h.good _ (g_ _)
theorem Cut.arA (h:Cut e A b):A<=6:=by
 have:=arity_good h.root_good
 have:=h.ar
 omega
end
def fitN:Nat->List St->Bool
 | _,[]=>true
 | 0,_::_=>false
 | n+1,s::r=>decide (0<=s.thn/\s.thn<=r.length/\0<=s.els/\s.els<=r.length-s.thn) && (fitN n (r.take s.thn.toNat) && (fitN n ((r.take (s.thn.toNat+s.els.toNat)).drop s.thn.toNat) && fitN n (r.drop (s.thn.toNat+s.els.toNat))))
def fitB (l:List St):Bool:=fitN l.length l
theorem fitN_any (n m:Nat) (l:List St) (hn:l.length<=n) (hm:l.length<=m):fitN n l=fitN m l:=by
 induction n generalizing m l with
 | zero=>
  have:l = []:=List.eq_nil_of_length_eq_zero o_
  subst this;cases m <;> rfl
 | succ n ih=>
  cases l with
  | nil=>cases m <;> rfl
  | cons s r=>
   cases m with
   | zero=>simp at hm
   | succ m=>
    simp only[l_c] at hn hm;simp only[fitN];rw[ih m (r.take s.thn.toNat) (by simp;omega) (by simp;omega),ih m ((r.take (s.thn.toNat+s.els.toNat)).drop s.thn.toNat) (by simp;omega) (by simp;omega),ih m (r.drop (s.thn.toNat+s.els.toNat)) (by simp;omega) (by simp;omega)]
theorem fitB_cons (s:St) (r:List St):fitB (s::r)=(decide (0<=s.thn/\s.thn<=r.length/\0<=s.els/\s.els<=r.length-s.thn) && (fitB (r.take s.thn.toNat) && (fitB ((r.take (s.thn.toNat+s.els.toNat)).drop s.thn.toNat) && fitB (r.drop (s.thn.toNat+s.els.toNat))))):=by
 have h:fitB (s::r)=fitN (r.length+1) (s::r):=rfl;rw[h];simp only[fitN];rw[fitN_any r.length _ (r.take s.thn.toNat) (by simp;omega) n_,fitN_any r.length _ ((r.take (s.thn.toNat+s.els.toNat)).drop s.thn.toNat) (by simp;omega) n_,fitN_any r.length _ (r.drop (s.thn.toNat+s.els.toNat)) (by simp) n_];rfl
theorem fitB_all (n:Nat) : ∀l:List St,l.length<=n->fitB l=true->∀s∈l,0<=s.thn/\0<=s.els:=by
 induction n with
 | zero=>
  intro l hl _ s hs;have:l = []:=List.eq_nil_of_length_eq_zero o_
  subst this;cases hs
 | succ n ih=>
  intro l hl h s hs;cases l with
  | nil=>cases hs
  | cons t r=>
   simp only[l_c] at hl;rw[fitB_cons] at h;simp only[Bool.and_eq_true,decide_eq_true_eq] at h;obtain⟨h0,h1,h2,h3⟩:=h;rcases List.mem_cons.1 hs with rfl|hs
   ·exact⟨h0.1,h0.2.2.1⟩
   ·have hr:r=r.take t.thn.toNat++((r.take (t.thn.toNat+t.els.toNat)).drop t.thn.toNat++r.drop (t.thn.toNat+t.els.toNat)):=by
     rw[<-List.append_assoc];have e:r.take t.thn.toNat++(r.take (t.thn.toNat+t.els.toNat)).drop t.thn.toNat=r.take (t.thn.toNat+t.els.toNat):=by
      have:=List.take_append_drop t.thn.toNat (r.take (t.thn.toNat+t.els.toNat))
      rwa [List.take_take,Nat.min_eq_left o_] at this
     rw[e,List.take_append_drop]
    rw[hr] at hs;rcases List.mem_append.1 hs with hs|hs
    ·exact ih _ (by simp;omega) h1 s hs
    ·rcases List.mem_append.1 hs with hs|hs
     ·exact ih _ (by simp;omega) h2 s hs
     ·exact ih _ (by simp;omega) h3 s hs
section
open Go.RowKit
variable {e r:List Nd} {A:Nat} {b:Nat->Nat} {F F':Nat->List Nd}
def boolN (b:Bool):Int:=if b then 1 else 0
def w32 (x:Int):Int:=wrap32 x
def unN (op a:Int):Int:=if op=0 then w32 (-a) else if op=1 then boolN (decide (a=0)) else w32 (-1-a)
def joinF (F:Nat->List Nd):Nat->List Nd
 | 0=>[]
 | i+1=>joinF F i++F i
theorem begP_one {ns:List Nd} {k i j:Nat} (h:begP ns k i) (h':begP ns k j):i=j:=by
 obtain⟨a1,a2,a3⟩:=h;obtain⟨b1,b2,b3⟩:=h';rcases Nat.lt_trichotomy i j with h|h|h
 ·have:=a3 j h o_;omega
 ·exact h
 ·have:=b3 i h o_;omega
theorem Cut.one {A':Nat} {b':Nat->Nat} (h:Cut e A b) (h':Cut e A' b'):A=A'/\∀i,i<=A->b i=b' i:=by
 have hA:A=A':=by have:=h.ar;have:=h'.ar;omega
 subst hA;refine⟨rfl,?_⟩;have : ∀d,d<=A->b (A-d)=b' (A-d):=by
  intro d;induction d with
  | zero=>intro _;rw[Nat.sub_zero,h.last,h'.last]
  | succ d ih=>
   intro hd;have e1:=ih o_;have h1:=h.beg (A-(d+1)) o_;have h2:=h'.beg (A-(d+1)) o_;rw[show A-(d+1)+1=A-d by omega] at h1 h2;rw[<-e1] at h2;exact begP_one h1 h2
 intro i hi;have:=this (A-i) o_
 rwa [show A-(A-i)=i by omega] at this
end
section
variable {l:List St}
end
section
open Go.RowKit
variable {e:List Nd} {T:List (List Nd)}
theorem wholeTo_add (l:List Nd) (d:Int) (hd:0<=d) : ∀(k q:Int),wholeTo l k=some q->wholeTo l (k+d)=some (q+d):=by
 induction l with
 | nil=>intro k q h;simp only[wholeTo,Option.some.injEq] at *;omega
 | cons n r ih=>
  intro k q h;simp only[wholeTo] at *;split at h
  ·rename_i hh;rw[if_pos ⟨hh.1,by omega⟩];have:=ih _ _ h
   rw[show k+d+1-arity n=k+1-arity n+d by omega];exact this
  ·cases h
theorem one_whole {s:List Nd} (h:oneB s=true):wholeTo s 0=some 1:=by simpa[oneB] using h
theorem wholeTo_segs (T:List (List Nd)) (h : ∀s∈T,oneB s=true) : ∀k:Int,0<=k->wholeTo T.flatten k=some (k+T.length):=by
 induction T with
 | nil=>intro k hk;simp[wholeTo]
 | cons s T ih=>
  intro k hk;rw[List.flatten_cons,wholeTo_append];have h1:=wholeTo_add s k hk 0 1 (one_whole (h s (by simp)));rw[show (0:Int)+k=k by omega] at h1;rw[h1,Option.bind_some,ih (λs hs=>h s (by simp[hs])) (1+k) o_];simp only[l_c,Option.some.injEq];omega
theorem flat_take (T:List (List Nd)) (i:Nat) (hi:i<T.length):T.flatten.take (T.take (i+1)).flatten.length=(T.take i).flatten++T[i]:=by
 have e:T=T.take (i+1)++T.drop (i+1):=(List.take_append_drop _ _).symm;have e2:T.flatten=(T.take (i+1)).flatten++(T.drop (i+1)).flatten:=by rw[<-List.flatten_append,<-e]
 rw[e2,List.take_left,List.take_add_one,List.flatten_append];simp[List.getElem?_eq_getElem hi]
theorem flat_len (T:List (List Nd)) (i:Nat) (hi:i<T.length):(T.take (i+1)).flatten.length=(T.take i).flatten.length+T[i].length:=by
 rw[List.take_add_one,List.flatten_append,l_a];simp[List.getElem?_eq_getElem hi]
theorem flat_le (T:List (List Nd)) (i:Nat):(T.take i).flatten.length<=T.flatten.length:=by
 have e2:T.flatten=(T.take i).flatten++(T.drop i).flatten:=by rw[<-List.flatten_append,List.take_append_drop]
 rw[e2,l_a];omega
theorem seg_kid (T:List (List Nd)) (n:Nd) (i:Nat) (hi:i<T.length):((T.flatten++[n]).take (T.take (i+1)).flatten.length).drop (T.take i).flatten.length=T[i]:=by
 rw[List.take_append_of_le_length (flat_le T _),flat_take T i hi,List.drop_left]
theorem root_snoc (l:List Nd) (n:Nd):rootN (l++[n])=n:=by
 simp[rootN]
theorem push_one (T:List (List Nd)) (n:Nd) (hn:nodeB n=true) (hA:arity n=T.length) (h : ∀s∈T,oneB s=true):oneB (T.flatten++[n])=true:=by
 have:wholeTo (T.flatten++[n]) 0=some 1:=by
  rw[wholeTo_append,wholeTo_segs T h 0 (Int.le_refl _),Option.bind_some];simp only[wholeTo];rw[if_pos ⟨hn,by omega⟩];simp only[Option.some.injEq];omega
 simpa[oneB] using this
theorem push_cut (T:List (List Nd)) (n:Nd) (hn:nodeB n=true) (hA:arity n=T.length) (h : ∀s∈T,oneB s=true) :
  Cut (T.flatten++[n]) T.length (λi=>(T.take i).flatten.length):=by
 refine⟨by simp,by rw[root_snoc];exact hA,one_good (push_one T n hn hA h),by simp,by simp,λi hi => ?_⟩;have hl:=flat_len T i hi;have ho:=(oneB_iff T[i]).1 (h _ (g_ _));have hp:=one_pos (h _ (g_ hi));refine⟨by omega,?_,λj h1 h2 => ?_⟩
 ·rw[seg_kid T n i hi];exact ho.2.1
 ·have e:((T.flatten++[n]).take (T.take (i+1)).flatten.length).drop j=T[i].drop (j-(T.take i).flatten.length):=by
   rw[<-seg_kid T n i hi,List.drop_drop];congr 1
   omega
  rw[e];exact ho.2.2 _ o_ o_
theorem segs_room (he:oneB e=true) (h : ∀s∈T,oneB s=true) {k:Nat} (hk:k<e.length) (hT:T.flatten=e.take k):nodeB e[k]=true/\arity e[k]<=T.length:=by
 have h1:=one_whole he;obtain⟨p,h2,h3⟩:=whole_take e 0 1 h1 (k+1);have h4:=wholeTo_segs T h 0 (Int.le_refl _);rw[hT] at h4;have:=wholeTo_step e k _ hk h4
 rw[h2] at this;split at this
 ·rename_i hh;exact⟨hh.1,by omega⟩
 ·cases this
theorem segs_end (he:oneB e=true) (h : ∀s∈T,oneB s=true) (hT:T.flatten=e):T = [e]:=by
 have h4:=wholeTo_segs T h 0 (Int.le_refl _);rw[hT,one_whole he] at h4;simp only[Option.some.injEq] at h4;have h5:T.length=1:=by omega
 obtain⟨s,rfl⟩:=List.length_eq_one_iff.1 h5;simp at hT;rw[hT]
end
section
variable {l:List St} {k:Nat}
def nodeSum:List St->Nat
 | []=>0
 | s::r=>s.e.length+s.f.length+nodeSum r
theorem nodeSum_append (a b:List St):nodeSum (a++b)=nodeSum a+nodeSum b:=by
 induction a with
 | nil=>simp[nodeSum]
 | cons s r ih=>simp[nodeSum,ih];omega
theorem nodeSum_step (l:List St) (k:Nat) (h:k<l.length):nodeSum (l.take (k+1))=nodeSum (l.take k)+l[k].e.length+l[k].f.length:=by
 rw[take_succ l k h,nodeSum_append];simp[nodeSum];omega
theorem nodeSum_le (l:List St) (k:Nat):nodeSum (l.take k)<=nodeSum l:=by
 have:=nodeSum_append (l.take k) (l.drop k)
 rw[List.take_append_drop] at this;omega
def stmtsB (p:St->Bool) (l:List St):Bool:=decide (nodeSum l<=2000) && l.all p
theorem stmtsB_sum {p:St->Bool} (h:2000<nodeSum (l.take k)):stmtsB p l=false:=by
 have:=nodeSum_le l k
 simp only[stmtsB,decide_eq_false (show ¬nodeSum l<=2000 by omega),Bool.false_and]
theorem stmtsB_bad {p:St->Bool} (hk:k<l.length) (h:p l[k]=false):stmtsB p l=false:=by
 have:l.all p=false:=by
  rw[List.all_eq_false];exact⟨l[k],g_ hk,by simp[h]⟩
 simp[stmtsB,this]
theorem stmtsB_ok {p:St->Bool} (h1:nodeSum l<=2000) (h2 : ∀s∈l,p s=true):stmtsB p l=true:=by
 have:l.all p=true:=List.all_eq_true.2 h2
 simp[stmtsB,this,h1]
theorem all_bad {p:ByteArray->Bool} {l:List ByteArray} (hk:k<l.length) (h:p l[k]=false):l.all p=false:=by
 rw[List.all_eq_false];exact⟨l[k],g_ hk,by simp[h]⟩
def funcB (f:Fu):Bool:=nameB f.name && (decide (f.params.length<=6) && (decide (f.body.length<=500) && (f.params.all nameB && (stmtsB stmtB f.body && fitB f.body))))
def gstmtB (s:St):Bool:=stmtB s && decide (0<=s.thn/\0<=s.els)
theorem gstmts_fit (l:List St):(stmtsB gstmtB l && fitB l)=(stmtsB stmtB l && fitB l):=by
 cases h:fitB l
 ·simp
 ·have hn:=fitB_all l.length l n_ h;have:l.all gstmtB=l.all stmtB:=by
   apply Bool.eq_iff_iff.2;rw[List.all_eq_true,List.all_eq_true];constructor
   ·intro h s hs;have:=h s hs
    simp only[gstmtB,Bool.and_eq_true] at this;exact this.1
   ·intro h s hs;simp only[gstmtB,Bool.and_eq_true,decide_eq_true_eq];exact⟨h s hs,hn s hs⟩
  simp only[stmtsB,this]
theorem gstmts_nonneg (h : ∀s∈l,gstmtB s=true) : ∀s∈l,0<=s.thn/\0<=s.els:=by
 intro s hs;have:=h s hs
 simp only[gstmtB,Bool.and_eq_true,decide_eq_true_eq] at this;exact this.2
def globB (g:Gl):Bool:=nameB g.name && decide (0<=g.size/\g.size<=4000)
def treeB (t:Tr):Bool:=decide (t.globals.length<=50) && (decide (t.funcs.length<=50) && (t.globals.all globB && t.funcs.all funcB))
theorem allG_bad {l:List Gl} (hk:k<l.length) (h:globB l[k]=false):l.all globB=false:=by
 rw[List.all_eq_false];exact⟨l[k],g_ hk,by simp[h]⟩
theorem allF_bad {l:List Fu} (hk:k<l.length) (h:funcB l[k]=false):l.all funcB=false:=by
 rw[List.all_eq_false];exact⟨l[k],g_ hk,by simp[h]⟩
def smallS (s:St):Prop:=s.e.length<=1048576/\s.f.length<=1048576
def smallF (f:Fu):Prop:=f.params.length<=1048576/\f.body.length<=1048576/\∀s∈f.body,smallS s
def smallT (t:Tr):Prop:=t.globals.length<=1048576/\t.funcs.length<=1048576/\∀f∈t.funcs,smallF f
end
section
variable {α:Type} {left:Int} {n:Nat}
def sumBy {α:Type} (f:α->Nat):List α->Nat
 | []=>0
 | x::r=>f x+sumBy f r
theorem sumBy_append (f:α->Nat) (a b:List α):sumBy f (a++b)=sumBy f a+sumBy f b:=by
 induction a with
 | nil=>simp[sumBy]
 | cons x r ih=>simp[sumBy,ih];omega
theorem sumBy_step (f:α->Nat) (l:List α) (k:Nat) (h:k<l.length):sumBy f (l.take (k+1))=sumBy f (l.take k)+f l[k]:=by
 rw[take_succ l k h,sumBy_append];simp[sumBy]
theorem sumBy_le (f:α->Nat) (l:List α) (k:Nat):sumBy f (l.take k)<=sumBy f l:=by
 have:=sumBy_append f (l.take k) (l.drop k)
 rw[List.take_append_drop] at this;omega
theorem sumBy_mem (f:α->Nat) (l:List α) (x:α) (h:x∈l):f x<=sumBy f l:=by
 induction l with
 | nil=>cases h
 | cons y r ih=>
  simp only[sumBy];rcases List.mem_cons.1 h with rfl|h
  ·omega
  ·have:=ih h;omega
def szN (n:Nd):Nat:=n.name.size
def szNs (ns:List Nd):Nat:=ns.length+sumBy szN ns
def szSt (s:St):Nat:=s.name.size+szNs s.e+szNs s.f
def szSs (ss:List St):Nat:=ss.length+sumBy szSt ss
def szPs (ps:List ByteArray):Nat:=ps.length+sumBy ByteArray.size ps
def szFu (f:Fu):Nat:=f.name.size+szPs f.params+szSs f.body
def szFs (fs:List Fu):Nat:=fs.length+sumBy szFu fs
def szG (g:Gl):Nat:=g.name.size
def szGs (gs:List Gl):Nat:=gs.length+sumBy szG gs
def szT (t:Tr):Nat:=szGs t.globals+szFs t.funcs
def szR (left:Int) (n:Nat):Int:=if (n:Int)<=left then left-n else -1
theorem szR_le (h:(n:Int)<=left):szR left n=left-n:=if_pos h
theorem szR_gt (h:left<(n:Int)):szR left n = -1:=if_neg o_
def wfNs (ns:List Nd):Prop:=ns.length<=9223372036854775807/\∀n∈ns,n.name.size<=9223372036854775807
def wfSt (s:St):Prop:=s.name.size<=9223372036854775807/\wfNs s.e/\wfNs s.f
def wfSs (ss:List St):Prop:=ss.length<=9223372036854775807/\∀s∈ss,wfSt s
def wfPs (ps:List ByteArray):Prop:=ps.length<=9223372036854775807/\∀s∈ps,s.size<=9223372036854775807
def wfFu (f:Fu):Prop:=f.name.size<=9223372036854775807/\wfPs f.params/\wfSs f.body
def wfFs (fs:List Fu):Prop:=fs.length<=9223372036854775807/\∀f∈fs,wfFu f
def wfGs (gs:List Gl):Prop:=gs.length<=9223372036854775807/\∀g∈gs,g.name.size<=9223372036854775807
def wfT (t:Tr):Prop:=wfGs t.globals/\wfFs t.funcs
theorem smallT_of {t:Tr} (h:szT t<=1048576):smallT t:=by
 unfold szT szGs szFs at h;refine⟨by omega,by omega,λf hf => ?_⟩;have h1:=sumBy_mem szFu _ _ hf;have e1:szFu f=f.name.size+(f.params.length+sumBy ByteArray.size f.params)+(f.body.length+sumBy szSt f.body):=rfl;refine⟨by omega,by omega,λs hs => ?_⟩;have h2:=sumBy_mem szSt _ _ hs;have e2:szSt s=s.name.size+(s.e.length+sumBy szN s.e)+(s.f.length+sumBy szN s.f):=rfl;exact⟨by omega,by omega⟩
end
end Go.Proofs.YtffnkkpmlplfeaaGreatDoor
