import Derived.Test.YtngnoopnloojjaaGreatDoorQ30
import Derived.Laws.AppendOwnNone
import Derived.Test.YtngnoopnloojjaaGreatDoorQ04
namespace Go.Proofs.YtngnoopnloojjaaGreatDoor
open Go.Value Go.World List
open Go.Proofs.Tryz
set_option linter.all false
set_option maxRecDepth 100000
set_option maxHeartbeats 0
variable[Inhabited Pick]
section
open Go.RowKit
variable{w w':AT}{ns:List Nd}{B sz n:Nat}{v:BY}{row:Option Nat}{e:IN}{xs:List BY}
def eQ(n:Nd):List BY:=[V n.kd,V n.val,sV n.nm]
def ef(ns:List Nd):List BY:=ns.flatMap eQ
theorem mX(ns:List Nd):(ef ns).length=ns.length*3:=by
 induction ns with
 | nil=>rfl
 | cons n r ih=>
  have:ef (n::r)=eQ n++ef r:=rfl
  rw[this,l_a,ih];simp[eQ];omega
def me(a b:List Nd):ef (a++b)=ef a++ef b:=by simp[ef]
theorem we(ns:List Nd)(j:Nat)(I:j<ns.length):(ef ns)[j*3]? =some (V ns[j].kd)/\(ef ns)[j*3+1]? =some (V ns[j].val)/\(ef ns)[j*3+2]? =some (sV ns[j].nm):=by
 induction ns generalizing j with
 | nil=>simp at I
 | cons n r ih=>
  have e:ef (n::r)=eQ n++ef r:=rfl;cases j with
  | zero=>rw[e];simp[eQ]
  | succ j=>
   have:=ih j (D4 I)
   rw[e];have H:(j+1)*3=j*3+3:=o_;have h:(eQ n).length=3:=rfl;refine⟨?_,?_,?_⟩;rw[H,getElem?_append_right o_,h];simpa using this.1;rw[H,getElem?_append_right o_,h,show j*3+3+1-3=j*3+1 by omega];simpa using this.2.1;rw[H,getElem?_append_right o_,h,show j*3+3+2-3=j*3+2 by omega];simpa using this.2.2
def wg(ns:List Nd)(i:Nat)(hi:i<ns.length*3):∃j,j<ns.length/\(i=j*3\/i=j*3+1\/i=j*3+2):=⟨i / 3,o_,o_⟩
def gB(g off j:Nat):(⟨g,off,none⟩:Addr).add j=⟨g,off+j,none⟩:=by simp[Addr.add];try (intro h;omega)
theorem pW{b off:Nat}(h:iq w b off ns):∀i u,(ef ns)[i]? =some u->w.cell? ((⟨b,off,none⟩:Addr).add i)=some u:=by
 intro i u H;have Z:i<ns.length*3:=by rw[<-mX];exact(List.getElem?_eq_some_iff.1 H).1
 have⟨j,I,X⟩:=wg ns i Z;have⟨f0,U,J⟩:=we ns j I;have⟨Y,c1,O⟩:=h j I;rw[gB];rcases X with rfl|rfl|rfl
 rw[f0]at H;cases H;exact Y;rw[U]at H;cases H;rw[<-Nat.add_assoc];exact c1;rw[J]at H;cases H;rw[<-Nat.add_assoc];exact O
def sI(ns:List Nd):∀u∈ef ns,u.oneCell'=true:=by intro u h;simp only[ef,mem_flatMap]at h;obtain⟨n,_,H⟩:=h;simp only[eQ,mem_cons,not_mem_nil,or_false]at H;rcases H with rfl|rfl|rfl <;> rfl
def dW(B:Nat)(w:AT)(v:BY)(ns:List Nd):Prop:=w.ownsRow B 36 3 v ns.length (ef ns)
def dW.nodes(h:dW B w v ns):a_ w v ns:=by have H:=h;obtain⟨hl,h⟩:=h;rcases h with⟨rfl,Y⟩|⟨g,Ja,Jd,rfl,hg,hh,Jc,Jb,Jf,Je⟩;exact⟨none,0,by rw[Y],o_,o_,λh=>absurd h o_⟩;refine⟨_,Ja,rfl,Jc,by simp only[maxLen]at Jb;omega,λ_=>⟨g,0,rfl,λj hj=>?_⟩⟩;have⟨U,X,Z⟩:=we ns j hj;have J:=ownsRow.cells H (g:=g) rfl _ _ U;have I:=ownsRow.cells H (g:=g) rfl _ _ X;have O:=ownsRow.cells H (g:=g) rfl _ _ Z;rw[gB]at J I O;exact⟨J,by rw[Nat.add_assoc];exact I,by rw[Nat.add_assoc];exact O⟩
def dW.below(h:dW B w v ns)(X:Bl w w'):dW B w' v ns:=by obtain⟨O,H⟩:=h;refine⟨O,?_⟩;rcases H with H|⟨g,Jb,Ja,rfl,U,I,J⟩;exact .inl H;refine .inr ⟨g,Jb,Ja,rfl,U,?_,J⟩;rw[X.block g (Array.getElem?_eq_some_iff.1 I).1];exact I
def sJ:(prog.info? 36).map (λi=>(i.zero,i.size,i.bytes))=some (some (.agg #[V 0,V 0,sV ⟨#[]⟩]),3,32):=by kernel_rfl
def Ik(h:w.ownsRow B e sz v n xs)(X:w.grownBy w' row)(Jc:∀g,v.ownBlock=some g->row≠some g):w'.ownsRow B e sz v n xs:=by obtain⟨O,H⟩:=h;refine⟨O,?_⟩;rcases H with H|⟨g,Jb,Ja,rfl,U,I,J⟩;exact .inl H;refine .inr ⟨g,Jb,Ja,rfl,U,?_,J⟩;rw[X.block g (Array.getElem?_eq_some_iff.1 I).1 (λe=>Jc g rfl e.symm)];exact I
def ownB(h:w.ownsRow B e sz v n xs)(X:Bl w w'):w'.ownsRow B e sz v n xs:=by obtain⟨O,H⟩:=h;refine⟨O,?_⟩;rcases H with H|⟨g,Jb,Ja,rfl,U,I,J⟩;exact .inl H;refine .inr ⟨g,Jb,Ja,rfl,U,?_,J⟩;rw[X.block g (Array.getElem?_eq_some_iff.1 I).1];exact I
section
variable{w:AT}
end
def wi{ops:Array Oper}{Jb:List Oper}{o:Oper}{a:Act}{Q:Exit->Act->AT->Prop}(Ji:o.guard=none)(s x:Operand)
  (Y:o.op=.call {callee:=.builtin .append,args:=#[s,x],argTypes:=#[33,33]})
  (B:Nat) (v:BY) (H:List Nd) (Z:a.eval s=v) (Jc:dW B w v H) (u:BY) (ns:List Nd) (hx:a.eval x=u) (hN:a_ w u ns)
  (X:0<ns.length) (hb:H.length+ns.length<=10000000) (Ja:B<=w.heap.size)
  (h:∀v' w',dW B w' v' (H++ns)->w.grownBy w' v.ownBlock->(∀k,v'.ownBlock=some k->v.ownBlock=some k\/w.heap.size<=k)->wpList prog ops Q Jb (a.put o.dst v') w'):wpList prog ops Q (o::Jb) a w:=by
 have⟨I,U,Jf,Jg,Jd⟩:=info_parts sJ;obtain⟨ad,Jh,rfl,Jk,Jj,O⟩:=hN;obtain⟨b,Je,rfl,J⟩:=O X;refine dY (w:=w) Ji s x _ Y B _ I _ 3 32 underlying33 U Jf Jg Jd rfl d_ v H.length (ef H) Z Jc ⟨b,Je,none⟩ ns.length Jh (ef ns) hx (mX ns) (pW J) (sI ns) o_ o_ Ja λv' w' h1 h2 h3=>h v' w' ?_ h2 h3;unfold dW;rw[l_a,me];exact h1
end
section
open Go.RowKit
variable{B n cap:Nat}{w:AT}{v:BY}{us:List BY}{a:Option Addr}{P:Program}{ops:Array Oper}{o:Oper}
def oL:(prog.info? 55).map (λi=>(i.zero,i.size,i.bytes))=some (some .nilIface,1,16):=by kernel_rfl
def eT(B:Nat)(w:AT)(v:BY)(us:List BY):Prop:=w.ownsRow B 55 1 v us.length us
def eT.form(h:eT B w v us):∃a cap,v=.slice a us.length cap/\us.length<=cap/\cap<=9223372036854775807/\(a=none->us=[])/\(∀ad,a=some ad->∃g,ad=⟨g,0,none⟩/\B<=g/\g<w.heap.size/\∀j u,us[j]? =some u->Bo w g j u):=by have H:=h;rcases h.2 with⟨rfl,I⟩|⟨g,cap,Je,rfl,Jb,J,Jd,Jc,Jf,Ja⟩;refine⟨none,0,by rw[I],o_,o_,λ_=>K1 I,λad hh=>?_⟩;cases hh;refine⟨_,cap,rfl,Jd,by unfold maxLen at Jc;omega,λhh=>?_,λad hh=>?_⟩;cases hh;simp only[If]at hh;refine⟨g,hh.symm,Jb,(ownsRow.lt H g rfl).2,λj u hj=>?_⟩;have:=ownsRow.cells H (g:=g) rfl j u hj;rw[gB]at this;simpa using this
def eT.head(h:eT B w (.slice a n cap) us)(H:Nat)(Jh:H<=us.length):eT B w (.slice a H cap) (us.take H):=by
 have J:(us.take H).length=H:=by simp;omega
 rcases h.2 with⟨I,U⟩|⟨g,Je,Jb,I,Jc,O,Jg,Jd,Jf,Ja⟩;simp only[Value.slice.injEq]at I;obtain⟨rfl,rfl,rfl⟩:=I;have:H=0:=by omega
 subst this;refine⟨i_,.inl ⟨i_,i_⟩⟩;simp only[Value.slice.injEq]at I;obtain⟨rfl,rfl,rfl⟩:=I;refine⟨i_,.inr ⟨g,cap,Jb,by rw[J],Jc,O,by rw[J];omega,Jd,Jf,?_⟩⟩;rw[J,<-Ja,take_take,Nat.mul_one,Nat.mul_one,Nat.min_eq_left o_]
def eT.own(h:eT B w v us)(g:Nat)(hg:v.ownBlock=some g):B<=g/\g<w.heap.size:=ownsRow.lt h g hg
def Src(w:AT)(v:BY)(us:List BY):Prop:=∃a cap,v=.slice a us.length cap/\(a=none->us=[])/\∀ad,a=some ad->∀j u,us[j]? =some u->w.cell? (ad.add j)=some u
def Src.below{w':AT}(h:Src w v us)(I:Bl w w'):Src w' v us:=by obtain⟨a,Ja,rfl,H,h2⟩:=h;refine⟨a,Ja,rfl,H,λad he j u hj=>?_⟩;have:=h2 ad he j u hj;exact(I.cell (p:=ad.add j) (b_ this)).trans this
theorem eT.tail(h:eT B w (.slice a n cap) us)(H:Nat)(Jd:H<=us.length):Src w (.slice (if cap=H then a else a.map (·.add (H*1))) (n-H) (cap-H)) (us.drop H):=by
 have⟨U,Jb,I,Jc,_,O,h2⟩:=h.form;simp only[Value.slice.injEq]at I;obtain⟨rfl,rfl,rfl⟩:=I;refine⟨_,_,by rw[List.length_drop],λhh=>?_,λad hh j u hj=>?_⟩
 have J:a=none:=by
  split at hh;exact hh;cases a with
  | none=>rfl
  | some x=>cases hh
 rw[O J];simp;have Ja:=(List.getElem?_eq_some_iff.mp hj).1;rw[List.length_drop]at Ja;rw[if_neg o_]at hh;cases a with
 | none=>cases hh
 | some x=>simp only[Option.map_some,Option.some.injEq]at hh;obtain⟨g,rfl,_,_,h3⟩:=h2 x rfl;subst hh;rw[List.getElem?_drop]at hj;have:=h3 _ _ hj;rw[gB,gB];simpa using this
theorem wj(Ja:Nat)(t J e:IN)(i:TypeInfo)(z:BY)(I:P.underlying t=some (.slice e))(O:P.info? e=some i)(hz:i.zero=some z)
  (Jc:i.size=1) (Jh:i.bytes=16) (Ji:z.cells.size=1)
  (v:BY) (h:List BY) (Jb:w.ownsRow Ja e 1 v h.length h) (x:BY) (H:List BY) (hx:Src w x H) (h1:∀u∈H,u.oneCell'=true)
  (hm:h.length+H.length<=10000000) (Jd:Ja<=w.heap.size):
  ∃v' w',(Builtin.append_ #[t,t] J #[v,x]).run P w=.ok v' w'/\w'.ownsRow Ja e 1 v' (h++H).length (h++H)/\w.grownBy w' v.ownBlock/\∀k,v'.ownBlock=some k->v.ownBlock=some k\/w.heap.size<=k:=by
 obtain⟨a,Je,rfl,h2,h3⟩:=hx;cases a with
 | none=>
  obtain rfl:=h2 rfl;have hr:(Builtin.append_ #[t,t] J #[v,.slice none ([]:List BY).length Je]).run P w=.ok v w:=by rcases Jb.2 with⟨rfl,hn⟩|⟨g,Jg,Jj,rfl,_,_,Jf,_⟩;simp[Builtin.append_,run_underlying I,sizeOf,typeInfo,O,Builtin.lenOf,Builtin.firstCells];simp[Builtin.append_,run_underlying I,sizeOf,typeInfo,O,Builtin.lenOf,Builtin.firstCells,Jf,storeCells]
  refine⟨v,w,hr,D4 Jb,⟨rfl,rfl,rfl,n_,λ_ _ _=>rfl⟩,λk hk=>.inl hk⟩
 | some ad=>have⟨v',w',Z,U,Y,X⟩:=fV (P:=P) (w:=w) Ja t J e i z 1 16 I O hz Jc Jh Ji d_ v h.length h Jb ad H.length Je H i_ (h3 ad rfl) h1 hm d_ Jd;exact⟨v',w',Z,by rw[l_a];exact U,Y,X⟩
def kK{a:Act}{K:Act->AT->Prop}{Q:Exit->Act->AT->Prop}{E:Prop}(Je:o.guard=none)(s x:Operand)(t:IN)
  (ho:o.op=.call {callee:=.builtin .append,args:=#[s,x],argTypes:=#[t,t]})
  (Ja:Nat) (e:IN) (i:TypeInfo) (z:BY) (X:P.underlying t=some (.slice e)) (hi:P.info? e=some i) (Z:i.zero=some z)
  (Jb:i.size=1) (Jg:i.bytes=16) (Jh:z.cells.size=1)
  (v:BY) (H:List BY) (hs:a.eval s=v) (Jd:w.ownsRow Ja e 1 v H.length H) (J:BY) (I:List BY) (Jf:a.eval x=J) (hx:Src w J I) (Y:∀u∈I,u.oneCell'=true)
  (hm:H.length+I.length<=10000000) (Jc:Ja<=w.heap.size)
  (h:∀v' w',w'.ownsRow Ja e 1 v' (H++I).length (H++I)->w.grownBy w' v.ownBlock->(∀k,v'.ownBlock=some k->v.ownBlock=some k\/w.heap.size<=k)->K (a.put o.dst v') w'):
  if Region.wanted o (yielded ops a.tmps)=true then Oper.wp P o a w K Q else E:=by
 have O:Region.wanted o (yielded ops a.tmps)=true:=by simp[Region.wanted,Je]
 rw[if_pos O];have⟨v',w',U,h2,h3,h4⟩:=wj (P:=P) (w:=w) Ja t o.type e i z X hi Z Jb Jg Jh v H Jd J I hx Y hm Jc;unfold Oper.wp execOp;simp only[ho,resolve,invoke,builtin,Sem.run_bind,Sem.run_pure,Result.andThen_ok,map_toArray,map_cons,map_nil,hs,Jf,U];exact h v' w' h2 h3 h4
def nQ{Jd:List Oper}{a:Act}{Q:Exit->Act->AT->Prop}(Jf:o.guard=none)(s x:Operand)(t:IN)
  (Z:o.op=.call {callee:=.builtin .append,args:=#[s,x],argTypes:=#[t,t]})
  (Ja:Nat) (e:IN) (i:TypeInfo) (z:BY) (U:P.underlying t=some (.slice e)) (hi:P.info? e=some i) (Y:i.zero=some z)
  (Jb:i.size=1) (Jh:i.bytes=16) (Ji:z.cells.size=1)
  (v:BY) (H:List BY) (hs:a.eval s=v) (Je:w.ownsRow Ja e 1 v H.length H) (J:BY) (I:List BY) (Jg:a.eval x=J) (hx:Src w J I) (X:∀u∈I,u.oneCell'=true)
  (hm:H.length+I.length<=10000000) (Jc:Ja<=w.heap.size)
  (h:∀v' w',w'.ownsRow Ja e 1 v' (H++I).length (H++I)->w.grownBy w' v.ownBlock->(∀k,v'.ownBlock=some k->v.ownBlock=some k\/w.heap.size<=k)->wpList P ops Q Jd (a.put o.dst v') w'):wpList P ops Q (o::Jd) a w:=by
 refine wpList_plain Jf λK hK=>?_;have⟨v',w',O,h2,h3,h4⟩:=wj (P:=P) (w:=w) Ja t o.type e i z U hi Y Jb Jh Ji v H Je J I hx X hm Jc;unfold Oper.wp execOp;simp only[Z,resolve,invoke,builtin,Sem.run_bind,Sem.run_pure,Result.andThen_ok,map_toArray,map_cons,map_nil,hs,Jg,O];exact hK _ _ (h v' w' h2 h3 h4)
theorem wk(v:BY)(H:List BY)(w:AT)(hl:H.length<=2097152)(h:Src w v H)(Z:∀u∈H,u.oneCell'=true):
  Calls prog 63 #[v] w λe w'=>∃u,e=rW u/\eT w.heap.size w' u H/\Bl w w':=by
 have⟨I,X,Jf,Jg,Je⟩:=info_parts oL;have U:=h.below ((Below.refl w.heap.size w).alloc n_ (.cells #[] 55));obtain⟨a,Jc,rfl,Y,hr⟩:=h;cases a with
 | none=>
  obtain rfl:=Y rfl;simp only[l_n];have Jd:∀w:AT,(binOp .eql 90 (.slice none 0 Jc) nV).run prog w=.ok (.bool true) w:=λw=>Lib.run_eql_slice_nil w 90 55 none 0 Jc 0 0 underlying90;go_in;go_wp2
  go_ret;exact⟨_,rfl,ownsRow_nil _ _ _ _,r_⟩
 | some ad=>
  have Jd:∀w:AT,(binOp .eql 90 (.slice (some ad) H.length Jc) nV).run prog w=.ok (.bool false) w:=λw=>Lib.run_eql_slice_nil w 90 55 (some ad) H.length Jc 0 0 underlying90;go_in;go_wp2_with(at_builtin;refine nQ rfl _ _ 90 rfl w.heap.size 55 I .nilIface underlying90 X Jf Jg Je rfl _ [] rfl (ownsRow_lit w #[] 0 n_ d_ rfl) _ H rfl U Z Do i_ ?_)
  intro v' w1 Ja Jb _;have O:Bl w w1:=(aq _ _).grown Jb i_ (by simp[ownBlock]);try rw[nil_append]at Ja
  have J:=ah Ja;go_wp2;go_ret;exact⟨_,rfl,J,O⟩
end
section
open Go.RowKit
variable{B B':Nat}{w w':AT}{v:BY}{ns:List Nd}{K:List Nat}{R:List SV}
def b9(B:Nat)(w:AT)(v:BY)(ns:List Nd)(K:List Nat):Prop:=(ns=[]/\K=[]/\∃a c,v=.slice a 0 c/\c<=9223372036854775807)\/∃g cap,v=rV g ns.length cap/\K=[g]/\ns.length<=cap/\cap<=9223372036854775807/\B<=g/\g<w.heap.size/\iq w g 0 ns/\∀j,j<ns.length*3->w.frozen? ⟨g,j,none⟩=false
def b9.nil(B:Nat)(w:AT):b9 B w nV [] []:=.inl ⟨rfl,rfl,none,0,rfl,o_⟩
def b9.nodes(h:b9 B w v ns K):a_ w v ns:=by rcases h with⟨rfl,-,a,c,rfl,I⟩|⟨g,Ja,rfl,-,H,h2,_,_,h3,_⟩;exact⟨a,c,rfl,y_,I,λh=>absurd h (Nat.lt_irrefl _)⟩;exact⟨_,Ja,rfl,H,h2,λ_=>⟨g,0,rfl,h3⟩⟩
def b9.base(h:b9 B w v ns K)(I:B'<=B):b9 B' w v ns K:=by rcases h with h|⟨g,Ja,H,h2,h3,h4,h5,h6⟩;exact .inl h;exact .inr ⟨g,Ja,H,h2,h3,h4,t_ I h5,h6⟩
def b9.rng(h:b9 B w v ns K):∀g∈K,B<=g/\g<w.heap.size:=by rcases h with⟨-,rfl,-⟩|⟨g,Ja,-,rfl,-,-,h5,h6,-⟩;intro g I;cases I;intro x H;simp only[K7]at H;subst H;exact⟨h5,h6⟩
def b9.keep(h:b9 B w v ns K)(J:w.heap.size<=w'.heap.size)(O:∀g∈K,w'.heap[g]? =w.heap[g]?):b9 B w' v ns K:=by
 rcases h with h|⟨g,Ja,I,rfl,h3,h4,h5,h6,h7,h8⟩;exact .inl h;have e:=O g i_;have H:∀o,w'.cell? ⟨g,o,none⟩=w.cell? ⟨g,o,none⟩:=λo=>c_ (a:=⟨g,o,none⟩) e;refine .inr ⟨g,Ja,I,rfl,h3,h4,h5,l_ h6 J,λj hj=>?_,λj hj=>?_⟩
 have⟨a,b,c⟩:=h7 j hj;exact⟨(H _).trans a,(H _).trans b,(H _).trans c⟩
 have:w'.frozen? ⟨g,j,none⟩=w.frozen? ⟨g,j,none⟩:=frozen?_of_block (a:=⟨g,j,none⟩) e
 exact this.trans (h8 j hj)
structure aM (B:Nat) (w:AT) (v:BY) (R:List SV):Prop where
 row:w.ownsRow B 254 6 v R.length (cQ R)
 each:∀q∈R,b9 B w q.ve q.s.e q.ke/\b9 B w q.vf q.s.f q.kf
 nd:(cC R).Nodup
 out:∀g,v.ownBlock=some g->g∉cC R
def aM.rng(h:aM B w v R):∀g∈cC R,B<=g/\g<w.heap.size:=by intro g hg;simp only[cC,mem_flatMap,K5]at hg;obtain⟨q,H,hg|hg⟩:=hg;exact(h.each q H).1.rng g hg;exact(h.each q H).2.rng g hg
def aM.nil(B:Nat)(w:AT):aM B w nV []:=⟨ownsRow_nil _ _ _ _,λq hq=>(by cases hq),nodup_nil,λg hg=>(by simp[ownBlock]at hg)⟩
theorem aM.base(h:aM B w v R)(H:B'<=B):aM B' w v R:=by refine⟨?_,λq hq=>⟨(h.each q hq).1.base H,(h.each q hq).2.base H⟩,h.nd,h.out⟩;have⟨I,h2⟩:=h.row;refine⟨I,?_⟩;rcases h2 with h2|⟨g,Jb,Ja,e,h3,h4,h5⟩;exact .inl h2;exact .inr ⟨g,Jb,Ja,e,t_ H h3,h4,h5⟩
def eW{q:SV}(h:q∈R):(∀g∈q.ke,g∈cC R)/\∀g∈q.kf,g∈cC R:=by refine⟨λg hg=>?_,λg hg=>?_⟩;exact mem_flatMap.2 ⟨q,h,K5.2 (.inl hg)⟩;exact mem_flatMap.2 ⟨q,h,K5.2 (.inr hg)⟩
theorem aM.below(h:aM B w v R)(H:Below w.heap.size w w'):aM B w' v R:=by refine⟨ownB h.row H,λq hq=>⟨(h.each q hq).1.keep H.size λg hg=>H.block g (h.rng g ((eW hq).1 g hg)).2,(h.each q hq).2.keep H.size λg hg=>H.block g (h.rng g ((eW hq).2 g hg)).2⟩,h.nd,h.out⟩
def aM.shape(h:aM B w v R):∃a c,v=.slice a R.length c:=by rcases h.row.2 with⟨rfl,H⟩|⟨g,Ja,Jb,rfl,_⟩;exact⟨none,0,by rw[H]⟩;exact⟨_,Ja,rfl⟩
end
section
open Go.RowKit
def K_(a:Int)(h: -2147483648<=a/\a<=2147483647):bits .xor .i64 (-1) a= -1-a:=by
 rw[Ap.bits_xor _ _ ⟨d_,d_⟩ h];have e:bits .xor .i32 (-1) a=IntKind.i32.wrap (((BitVec.ofInt 32 (-1)) ^^^ (BitVec.ofInt 32 a)).toNat:Int):=rfl;rw[e,Ap.wrap_toNat32];have I:BitVec.ofInt 32 (-1)=BitVec.allOnes 32:=d_;rw[I,BitVec.allOnes_xor,BitVec.toInt_not];have H:(BitVec.ofInt 32 a).toNat=(a%4294967296).toNat:=by simp[BitVec.toNat_ofInt]
 rw[H];have h3:(0:Int)<=a%4294967296:=o_;simp only[Int.bmod];omega
def Il(op a:Int)(O:0<=op)(h2:op<=2)(J:xM a)(w:AT):Calls prog 39 #[V op,V a] w λe w'=>e=rW (V (Dl op a))/\w'=w:=by
 obtain⟨Jb,Ja⟩:=J;have:op=0\/op=1\/op=2:=by omega
 rcases this with rfl|rfl|rfl
 ·have H:Hid (Dl 0 a=wrap32 (-a)):=by show _=_;simp[Dl,MD]
  have I:Hid (wrap64 (wrap32 (-a))=wrap32 (-a)):=Ap.w64_32 _;go_in;go_wp2
  all_goals go_ret
  all_goals refine⟨Ap.ret_intA ?_,rfl⟩
  all_goals first|exact H.o.symm|exact I.o.trans H.o.symm
 ·by_cases hz:a=0
  ·subst hz;go_in;go_wp2
   all_goals go_ret
   all_goals exact⟨rfl,rfl⟩
  have H:Hid (Dl 1 a=0):=(by show _=_;simp[Dl,boolN,hz]);have Jc:(a == 0)=false:=(by simp[hz]);go_in;go_wp2
  all_goals go_ret
  all_goals exact⟨Ap.ret_intA H.o.symm,rfl⟩
 have H:Hid (Dl 2 a= -1-a):=by show _=_;simp only[Dl,MD];rw[if_neg d_,if_neg d_];exact Ap.w32_id _ ⟨o_,o_⟩
 go_in;go_wp2
 all_goals go_ret
 all_goals refine⟨Ap.ret_intA ?_,rfl⟩
 all_goals first|exact H.o.symm|(rw[H.o];exact K_ a ⟨Jb,Ja⟩)
end
section
open Go.RowKit
variable{B n:Nat}{w:AT}{v:BY}{xs:List BY}
def wl{T:IN}{sz:Nat}{S:DO}{w':AT}(h:w.ownsRow B T sz v n xs)(O:aA S w w')(J:∀k,v.ownBlock=some k->¬S k):w'.ownsRow B T sz v n xs:=by obtain⟨H,h|⟨g,Jb,Ja,rfl,I,h2,h3⟩⟩:=h;exact⟨H,.inl h⟩;exact⟨H,.inr ⟨g,Jb,Ja,rfl,I,(O.block g (Array.getElem?_eq_some_iff.1 h2).1 (J g rfl)).trans h2,h3⟩⟩
end
section
open Go.RowKit
def mY:(prog.info? 214).map (λi=>(i.zero,i.size,i.bytes))=some (some (.agg #[V 0,V 0,V 0,V 0,V 0,V 0,V 0]),7,56):=by kernel_rfl
def pX(x:It):∀u∈gJ x,u.oneCell'=true:=by intro u h;simp only[gJ,mem_cons,not_mem_nil,or_false]at h;rcases h with rfl|rfl|rfl|rfl|rfl|rfl|rfl <;> rfl
def jC(x:It):cq [x]=gJ x:=by simp[cq]
theorem pY(w:World)(x:It)(t:TypeId):∀j u,(cq [x])[j]? =some u->(w.alloc (.cells #[V x.kd,V x.ins.op,V x.ins.rd,V x.ins.s1,V x.ins.s2,V x.ins.im,V x.label] t)).cell? ((⟨w.heap.size,0,none⟩:Addr).add j)=some u:=by
 intro j u h;rw[jC]at h;have H:j<7:=by
  have:=(List.getElem?_eq_some_iff.1 h).1
  simpa[gJ]using this
 have e:(⟨w.heap.size,0,none⟩:Addr).add j=⟨w.heap.size,j,none⟩:=by simp only[Addr.add];split <;> simp_all
 rw[e];have h7:j=0\/j=1\/j=2\/j=3\/j=4\/j=5\/j=6:=o_;rcases h7 with rfl|rfl|rfl|rfl|rfl|rfl|rfl <;> (simp[gJ]at h;rw[<-h];simp)
def wm{w:AT}{ops:Array Oper}{Jb:List Oper}{o:Oper}{a:Act}{Q:Exit->Act->AT->Prop}(Jg:o.guard=none)(s x:Operand)
  (U:o.op=.call {callee:=.builtin .append,args:=#[s,x],argTypes:=#[135,135]})
  (B:Nat) (v:BY) (its:List It) (H:It) (X:a.eval s=v) (Jc:w.ownsRow B 214 7 v its.length (cq its)) (b c:Nat) (Y:a.eval x=rV b 1 c) (O:∀j u,(cq [H])[j]? =some u->w.cell? ((⟨b,0,none⟩:Addr).add j)=some u)
  (Z:its.length<=9000000) (Ja:B<=w.heap.size)
  (h:∀v' w',w'.ownsRow B 214 7 v' (its.length+[H].length) (cq its++cq [H])->w.grownBy w' v.ownBlock->(∀k,v'.ownBlock=some k->v.ownBlock=some k\/w.heap.size<=k)->wpList prog ops Q Jb (a.put o.dst v') w'):wpList prog ops Q (o::Jb) a w:=by
 have⟨I,J,Je,Jd,Jf⟩:=info_parts mY;exact dY Jg s x _ U B 214 I _ 7 56 underlying135 J Je Jd Jf rfl d_ v its.length (cq its) X Jc ⟨b,0,none⟩ 1 c (cq [H]) Y (mI [H]) O (λu hu=>pX H u (by rw[jC]at hu;exact hu)) o_ d_ Ja h
end
section
open Go.RowKit
abbrev uh:=List Nd×List Nd×BY
def vsJ(L:List uh)(i:Nat):BY:=(L.getD i ([],[],.nilIface)).2.2
def fsJ(L:List uh)(i:Nat):List Nd:=(L.getD i ([],[],.nilIface)).2.1
structure RJ (w wr:AT) (e:List Nd) (k:Nat) (v:BY) (T:List uh) (S:DO):Prop where
 flat:(T.map (·.1)).flatten=e.take k
 each:∀t∈T,oneB t.1=true/\t.2.1=t.1/\Tv wr S t.2.2 t.2.1
 row:eT w.heap.size wr v (T.map (·.2.2))
 sep:∀B,S B->w.heap.size<=B/\B<wr.heap.size/\v.ownBlock≠some B
 bel:Bl w wr
def RJ.below{w wr w':AT}{e:List Nd}{k:Nat}{v:BY}{T:List uh}{S:DO}(h:RJ w wr e k v T S)(H:Bl wr w'):RJ w w' e k v T S:=by refine⟨h.flat,λt ht=>⟨(h.each t ht).1,(h.each t ht).2.1,(h.each t ht).2.2.bel (λB hB=>(h.sep B hB).2.1) H⟩,ownB h.row H,λB hB=>?_,h.bel.trans (H.mono h.bel.size)⟩;have:=h.sep B hB;exact⟨this.1,l_ this.2.1 H.size,this.2.2⟩
def RJ.one{w wr:AT}{e:List Nd}{k:Nat}{v:BY}{T:List uh}{S:DO}(h:RJ w wr e k v T S):∀u∈T.map (·.2.2),u.oneCell'=true:=by intro u H;simp only[mem_map]at H;obtain⟨t,I,rfl⟩:=H;have⟨a,b,Ja⟩:=(h.each t I).2.2.isI;rw[Ja];rfl
def RJ.segs{w wr:AT}{e:List Nd}{k:Nat}{v:BY}{T:List uh}{S:DO}(h:RJ w wr e k v T S):∀s∈T.map (·.1),oneB s=true:=by intro s H;simp only[mem_map]at H;obtain⟨t,I,rfl⟩:=H;exact(h.each t I).1
def qX(S:DO)(u:BY)(B:Nat):Prop:=S B\/u.ownBlock=some B
theorem RJ.kids{w wr w3:AT}{e:List Nd}{k:Nat}{v:BY}{T:List uh}{S:DO}(h:RJ w wr e k v T S)(H A:Nat)(Jf:H+A=T.length)(U:Bl wr w3){u:BY}(O:eT wr.heap.size w3 u ((T.drop H).map (·.2.2))):
  gx w3 (qX S u) u A (vsJ (T.drop H))/\(∀i,i<A->Tv w3 (qX S u) (vsJ (T.drop H) i) (fsJ (T.drop H) i))/\∀B,qX S u B->B<w3.heap.size:=by
 have Jb:(T.drop H).length=A:=by simp;omega
 have Ja:∀i (I:i<A),(T.drop H).getD i ([],[],.nilIface)=(T.drop H)[i]'(by omega)/\(T.drop H)[i]'(by omega)∈T:=by intro i I;refine⟨by simp[List.getD,K3 (show i<(T.drop H).length by omega)],K6 (g_ _)⟩
 refine⟨?_,λi I=>?_,λB hB=>?_⟩;obtain⟨a,Jc,rfl,J,h2,h3,h4⟩:=O.form;simp only[K8,Jb]at J⊢;refine⟨a,Jc,rfl,J,h2,λh0=>?_⟩;cases a with
 | none=>
  have:=h3 rfl
  have h5:=congrArg List.length this;simp only[K8,l_n]at h5;omega
 | some ad=>obtain⟨g,rfl,Jd,Je,X⟩:=h4 ad rfl;refine⟨g,rfl,.inr rfl,λi I=>?_⟩;refine X i _ ?_;rw[getElem?_map,K3 (show i<(T.drop H).length by omega),Option.map_some,vsJ,(Ja i I).1]
 ·have:=(h.each _ (Ja i I).2).2.2
  rw[vsJ,fsJ,(Ja i I).1];exact this.keep (λB hB=>.inl hB) (λB hB=>U.block B (h.sep B hB).2.1)
 rcases hB with hB|hB;exact l_ (h.sep B hB).2.1 U.size;exact(O.own B hB).2
theorem RJ.step{w wr w3 w4 w5 U:AT}{e:List Nd}{k:Nat}{v v' u J:BY}{T:List uh}{S:DO}(h:RJ w wr e k v T S)(hk:k<e.length)(H A:Nat)(Jl:H+A=T.length)(hn:aD e[k]=true)(hA:arity e[k]=A)
  (X:Bl wr w3) (hu:eT wr.heap.size w3 u ((T.drop H).map (·.2.2))) (Jf:Bl w3 w4) (hT:Tv w4 (qX S u) J (joinF (fsJ (T.drop H)) A++[e[k]])) (Jg:Bl w4 w5)
  (hr:eT w.heap.size U v' ((T.take H).map (·.2.2)++[J])) (I:w5.grownBy U v.ownBlock) (hf:∀g,v'.ownBlock=some g->v.ownBlock=some g\/w5.heap.size<=g):
  ∃T' S',RJ w U e (k+1) v' T' S':=by
 have Jj:∀g,v.ownBlock=some g->w.heap.size<=g/\g<wr.heap.size:=λg I=>h.row.own g I;have Jc:Bl wr w5:=(X.trans (Jf.mono X.size)).trans (Jg.mono (t_ X.size Jf.size));have Ja:∀B,qX S u B->B<w3.heap.size/\w.heap.size<=B/\v.ownBlock≠some B:=by intro B hB;rcases hB with hB|hB;exact⟨l_ (h.sep B hB).2.1 X.size,(h.sep B hB).1,(h.sep B hB).2.2⟩;have O:=hu.own B hB;have h2:=h.bel.size;refine⟨O.2,o_,λhh=>?_⟩;have:=Jj B hh;omega
 have Jk:w3.heap.size<=w5.heap.size:=t_ Jf.size Jg.size;have Jb:∀B,qX S u B->U.heap[B]? =w5.heap[B]? := λB hB=>I.block B (by have:=(Ja B hB).1;omega) (λhh=>(Ja B hB).2.2 hh.symm);refine⟨T.take H++[(((T.drop H).map (·.1)).flatten++[e[k]],joinF (fsJ (T.drop H)) A++[e[k]],J)],qX S u,?_,?_,?_,?_,?_⟩
 simp only[map_append,map_cons,map_nil,flatten_append,flatten_cons,flatten_nil,append_nil];rw[<-append_assoc,<-flatten_append,<-map_append,take_append_drop,h.flat,take_succ_eq_append_getElem hk]
 ·intro t ht;rw[K5]at ht;rcases ht with ht|ht
  ·have:=h.each t (mem_of_mem_take ht)
   refine⟨this.1,this.2.1,this.2.2.keep (λB hB=>.inl hB) (λB hB=>?_)⟩;rw[Jb B (.inl hB)];exact Jc.block B (h.sep B hB).2.1
  simp only[K7]at ht;subst ht;have Jd:∀s∈(T.drop H).map (·.1),oneB s=true:=by intro s Y;simp only[mem_map]at Y;obtain⟨t,ht,rfl⟩:=Y;exact(h.each t (K6 ht)).1
  have Je:((T.drop H).map (·.1)).length=A:=Do;refine⟨ja _ _ hn (by rw[Je,hA]) Jd,?_,hT.keep (λ_ hB=>hB) (λB hB=>?_)⟩;have hj:∀m,m<=A->joinF (fsJ (T.drop H)) m=(((T.drop H).map (·.1)).take m).flatten:=by
   intro m;induction m with
   | zero=>intro _;rfl
   | succ m ih=>intro hm;have Ji:m<(T.drop H).length:=Do;rw[joinF,ih o_,take_succ_eq_append_getElem (D4 Ji),flatten_append];simp only[getElem_map,flatten_cons,flatten_nil,append_nil];congr 1;rw[fsJ];simp only[List.getD,K3 Ji,Option.getD_some];exact(h.each _ (K6 (g_ _))).2.1
  rw[hj A n_,take_of_length_le (by rw[Je];exact n_)];rw[Jb B hB];exact Jg.block B (by have:=(Ja B hB).1;have:=Jf.size;omega)
 have Z:(T.take H++[(((T.drop H).map (·.1)).flatten++[e[k]],joinF (fsJ (T.drop H)) A++[e[k]],J)]).map (·.2.2)=(T.take H).map (·.2.2)++[J]:=i_;rw[Z];exact hr;intro B hB;have O:=Ja B hB;refine⟨O.2.1,Ft I.size,λhh=>?_⟩;rcases hf B hh with h2|h2;exact O.2.2 h2;omega;have Jh:Bl w w5:=h.bel.trans (Jc.mono h.bel.size);exact Jh.grown I Jh.size (λg I=>(Jj g I).1)
theorem RJ.fin{w wr:AT}{e:List Nd}{v:BY}{T:List uh}{S:DO}(h:RJ w wr e e.length v T S)(O:oneB e=true):∃u g,(∃cap,v=rV g 1 cap)/\Bo wr g 0 u/\Tv wr S u e:=by
 have H:T.map (·.1)=[e]:=uV O h.segs (by rw[h.flat,take_length]);have J:T.length=1:=by have:=congrArg List.length H;simpa using this
 obtain⟨t,rfl⟩:=length_eq_one_iff.1 J;simp only[map_cons,map_nil,List.cons.injEq,and_true]at H;have h2:=h.each t i_;rw[H]at h2;rw[h2.2.1]at h2;have⟨a,cap,I,_,_,h5,h6⟩:=h.row.form;cases a with
 | none=>have:=h5 rfl;simp at this
 | some ad=>obtain⟨g,rfl,_,_,h7⟩:=h6 ad rfl;exact⟨t.2.2,g,⟨cap,I⟩,h7 0 _ i_,h2.2.2⟩
end
section
open Go.RowKit
def AL(b:Bool)(w:AT):Calls prog 14 #[.bool b] w λe w'=>e=rW (V (boolN b))/\w'=w:=by
 cases b
 ·go_in;go_wp2;go_ret;exact⟨rfl,rfl⟩
 go_in;go_wp2;go_ret;exact⟨rfl,rfl⟩
def Im(op a:Int)(J:0<=op)(h2:op<=2)(I:xM a)(w:AT):
  Calls prog 22 #[.iface 98 (.agg #[V op,.iface 100 (.agg #[V a])])] w λe w'=>e=rW (.iface 100 (.agg #[V (Dl op a)]))/\Bl w w':=by
 have H:=ah λW=>Il op a J h2 I W;have O:=cA;have U:=bD;go_in;go_wp2_with fail;refine(H.o _).mono ?_;rintro x w1 ⟨rfl,rfl⟩;go_wp2;go_ret;exact⟨rfl,(aq _ _).alloc i_ _⟩
def yS(op:Int)(u:IN)(H:BY)(hu:u≠100)(w:AT):
  Calls prog 22 #[.iface 98 (.agg #[V op,.iface u H])] w λe w'=>e=rW (.iface 98 (.agg #[V op,.iface u H]))/\Bl w w':=by
 have U:=bu;have X:=bj;have Y:=bK;have n4:=cZ;have O:=aY;have Z:=cA;have y2:=bQ;have J:=cl;have I:=cT;have y5:=bD;go_in;go_wp2;go_ret;exact⟨rfl,(aq _ _).alloc i_ _⟩
def Cg(op a b:Int)(I:IN)(J:BY)(w:AT):
  Calls prog 40 #[.agg #[V op,.iface I J,.iface 100 (.agg #[V b])],.agg #[V a]] w λe w'=>e=rW (.iface 100 (.agg #[V (cL op a b)]))/\Bl w w':=by
 have Y:=bu;have Z:=bj;have n3:=bK;have n4:=cZ;have X:=aY;have y1:=cA;have y2:=bQ;have U:=cl;have O:=cT;have y5:=bD;have H:=ah λW=>MG op a b W;go_in;go_wp2_with fail;refine(H.o _).mono ?_;rintro x w1 ⟨rfl,rfl⟩;go_wp2;go_ret;exact⟨rfl,((aq _ _).alloc i_ _).alloc Do _⟩
def E0(op a:Int)(H u:IN)(J I:BY)(hu:u≠100)(w:AT):
  Calls prog 40 #[.agg #[V op,.iface H J,.iface u I],.agg #[V a]] w λe w'=>e=rW (.iface 104 (.agg #[V op,.iface H J,.iface u I]))/\Bl w w':=by
 have Y:=bu;have Z:=bj;have n3:=bK;have n4:=cZ;have X:=aY;have y1:=cA;have y2:=bQ;have U:=cl;have O:=cT;have y5:=bD;go_in;go_wp2;go_ret;exact⟨rfl,((aq _ _).alloc i_ _).alloc Do _⟩
def j9(op a b:Int)(w:AT):
  Calls prog 22 #[.iface 104 (.agg #[V op,.iface 100 (.agg #[V a]),.iface 100 (.agg #[V b])])] w λe w'=>e=rW (.iface 100 (.agg #[V (cL op a b)]))/\Bl w w':=by
 have U:=bu;have X:=bj;have Y:=bK;have n4:=cZ;have O:=aY;have Z:=cA;have y2:=bQ;have J:=cl;have I:=cT;have y5:=bD;have H:Hid (∀W,Calls prog 40 #[.agg #[V op,.iface 100 (.agg #[V a]),.iface 100 (.agg #[V b])],.agg #[V a]] W λe w'=>e=rW (.iface 100 (.agg #[V (cL op a b)]))/\Bl W w'):=λW=>Cg op a b _ _ W;go_in;go_wp2_with fail;refine(H.o _).mono ?_;rintro x w1 ⟨rfl,Ja⟩;go_wp2;go_ret;exact⟨rfl,((aq _ _).alloc i_ _).trans (Ja.mono Do)⟩
def wu(op a:Int)(u:IN)(H:BY)(J:u≠100)(w:AT):
  Calls prog 22 #[.iface 104 (.agg #[V op,.iface 100 (.agg #[V a]),.iface u H])] w λe w'=>e=rW (.iface 104 (.agg #[V op,.iface 100 (.agg #[V a]),.iface u H]))/\Bl w w':=by
 have Y:=bu;have Z:=bj;have n3:=bK;have n4:=cZ;have X:=aY;have y1:=cA;have y2:=bQ;have U:=cl;have O:=cT;have y5:=bD;have I:Hid (∀W,Calls prog 40 #[.agg #[V op,.iface 100 (.agg #[V a]),.iface u H],.agg #[V a]] W λe w'=>e=rW (.iface 104 (.agg #[V op,.iface 100 (.agg #[V a]),.iface u H]))/\Bl W w'):=λW=>E0 op a _ u _ H J W;go_in;go_wp2_with fail;refine(I.o _).mono ?_;rintro x w1 ⟨rfl,Ja⟩;go_wp2;go_ret;exact⟨rfl,((aq _ _).alloc i_ _).trans (Ja.mono Do)⟩
def lz(op:Int)(u I:IN)(J H:BY)(hu:u≠100)(w:AT):
  Calls prog 22 #[.iface 104 (.agg #[V op,.iface u J,.iface I H])] w λe w'=>e=rW (.iface 104 (.agg #[V op,.iface u J,.iface I H]))/\Bl w w':=by
 have Y:=bu;have Z:=bj;have n3:=bK;have n4:=cZ;have X:=aY;have y1:=cA;have y2:=bQ;have U:=cl;have O:=cT;have y5:=bD;go_in;go_wp2;go_ret;exact⟨rfl,(aq _ _).alloc i_ _⟩
def yT(u I:IN)(J H:BY)(hu:u≠100)(w:AT):
  Calls prog 22 #[.iface 107 (.agg #[.iface u J,.iface I H])] w λe w'=>e=rW (.iface 107 (.agg #[.iface u J,.iface I H]))/\Bl w w':=by
 have Y:=bu;have Z:=bj;have n3:=bK;have n4:=cZ;have X:=aY;have y1:=cA;have y2:=bQ;have U:=cl;have O:=cT;have y5:=bD;go_in;go_wp2;go_ret;exact⟨rfl,(aq _ _).alloc i_ _⟩
def Ch(u I:IN)(J H:BY)(hu:u≠100)(w:AT):
  Calls prog 22 #[.iface 109 (.agg #[.iface u J,.iface I H])] w λe w'=>e=rW (.iface 109 (.agg #[.iface u J,.iface I H]))/\Bl w w':=by
 have Y:=bu;have Z:=bj;have n3:=bK;have n4:=cZ;have X:=aY;have y1:=cA;have y2:=bQ;have U:=cl;have O:=cT;have y5:=bD;go_in;go_wp2;go_ret;exact⟨rfl,(aq _ _).alloc i_ _⟩
def ji(u:IN)(H:BY)(I:u≠98)(h2:u≠104)(h3:u≠107)(h4:u≠109)(w:AT):
  Calls prog 22 #[.iface u H] w λe w'=>e=rW (.iface u H)/\Bl w w':=by
 have J:=λW=>bu W u H I;have X:=λW=>bj W u H h2;have O:=λW=>bK W u H h3;have U:=λW=>cZ W u H h4;go_in;go_wp2;go_ret;exact⟨rfl,r_⟩
end
section
open Go.RowKit
theorem sK(P:Nat)(its:List It)(c:Nat->Value)(H lb:Int)(w:World)(O:Em 214 5 8 P w its c)(hl:its.length<=9000000):
  Calls prog 84 #[pV P,V H,V lb] w λe w'=>(∃u,e=rW u)/\Em 214 5 8 P w' (its++[aW H lb]) c/\Wq 5 P w w':=by
 have Y:Hid (Em 214 5 8 P w its c):=O;obtain⟨Je,Ju,⟨v,hv,Jd⟩,Jk⟩:=O;obtain⟨a0,c0,Js⟩:∃a0 c0,v=.slice a0 its.length c0:=by rcases Jd.2 with⟨rfl,X⟩|⟨g,Jg,Jm,rfl,_⟩;exact⟨none,0,by rw[X]⟩;exact⟨_,Jg,rfl⟩
 subst Js;have Jh:Hid (Em 214 5 8 P (w.alloc (.cells #[V H,V 0,V 0,V 0,V 0,V 0,V lb] 214)) its c):=Y.out.below (aq _ _);have Jf:(w.alloc (.cells #[V H,V 0,V 0,V 0,V 0,V 0,V lb] 214)).cell? ⟨P,5,none⟩=some (.slice a0 its.length c0):=by rw[World.cell?_alloc_lt _ _ ⟨P,5,none⟩ Je];exact hv
 have⟨v1,Jc,Jb⟩:=Jh.out.row;rw[Jf]at Jc;obtain rfl:=Option.some.inj Jc;have⟨Jn,Jj⟩:=h2 Jb Jf;have Jo:Hid (Wq 5 P w (w.alloc (.cells #[V H,V 0,V 0,V 0,V 0,V 0,V lb] 214))):=Wq.below Je (aq _ _);have Jt:=pY w (aW H lb) 214;have Jr:=ah Jt;go_in;go_wp2_with(at_builtin;refine wm rfl _ _ rfl (P+1) _ its (aW H lb) rfl Jn.out w.heap.size 1 rfl Jr.out hl (by simp;omega) ?_);intro Z w2 Ja Jl Jq;have⟨f2,c2,Jp,Ji⟩:=Al Jh.out Jj.out Ja Jl (λk hk=>by rw[World.size_alloc];exact Jq k hk);obtain⟨I,J,vc,rfl⟩:∃I J vc,Z=.slice I J vc:=by rcases Ja.2 with⟨rfl,_⟩|⟨g,Jg,Jm,rfl,_⟩;exact⟨_,_,_,rfl⟩;exact⟨_,_,_,rfl⟩
 have U:Hid (Em 214 5 8 P (w2.setCell ⟨P,5,none⟩ (.slice I J vc)) (its++[aW H lb]) c/\Wq 5 P w (w2.setCell ⟨P,5,none⟩ (.slice I J vc))):=⟨Jp,Jo.out.trans Ji⟩;go_wp2_with fail;exact bodyPost_end (v:=.tuple #[]) (by simp[results,results84,go_sem]) rfl ⟨⟨_,rfl⟩,U⟩
def yU(P:Nat)(its:List It)(c:Nat->BY)(l:Int)(w:AT)(H:Em 214 5 8 P w its c)(J:c 6=V l)(Y:0<=l/\l<=1000000000):
  Calls prog 140 #[pV P] w λe w'=>e=rW (V l)/\Em 214 5 8 P w' its (λj=>if j=6 then V (l+1)else c j)/\Wq 5 P w w':=by
 have h5:=H.oth 6 d_ d_;rw[J]at h5;have U:=H.fz 6;have I:Hid (Em 214 5 8 P (w.setCell ⟨P,6,none⟩ (V (l+1))) its (λj=>if j=6 then V (l+1)else c j)/\Wq 5 P w (w.setCell ⟨P,6,none⟩ (V (l+1)))):=pj H 6 d_ d_ _;have Ja:Bo (w.setCell ⟨P,6,none⟩ (V (l+1))) P 6 (V (l+1)):=cell?_setCell_same _ _ _ h5;have O:IntKind.i64.wrap (l+1)=l+1:=by simp[IntKind.wrap,IntKind.bits,IntKind.signed];omega
 have X:IntKind.i64.wrap (l+1-1)=l:=by simp[IntKind.wrap,IntKind.bits,IntKind.signed];omega
 go_in;go_wp2;go_ret;exact⟨i_,I⟩
end
section
open Go.RowKit
def cS(vg vf vn:BY)(fr en l:Int):Nat->BY:=λj=>if j=0 then vg else if j=1 then vf else if j=2 then vn else if j=3 then V fr else if j=4 then V en else V l
def Em.congr{ti q n P:Nat}{w:AT}{its:List It}{c c':Nat->BY}(h:Em ti q n P w its c)(hc:∀o,o<n->o≠q->c o=c' o):Em ti q n P w its c':=⟨h.lt,h.fz,h.row,λo ho hq=>(h.oth o ho hq).trans (by rw[hc o ho hq])⟩
end
section
open Go.RowKit
def Lc(x:Int):bits .and .i64 x 1048575=x%1048576:=by
 show IntKind.i64.wrap ((BitVec.ofInt 64 x &&& BitVec.ofInt 64 1048575).toNat:Int)=_;have h:(BitVec.ofInt 64 x &&& BitVec.ofInt 64 1048575).toNat=(x%1048576).toNat:=by rw[BitVec.toNat_and,BitVec.toNat_ofInt];have e:(BitVec.ofInt 64 1048575).toNat=2 ^ 20-1:=d_;rw[e,Nat.and_two_pow_sub_one_eq_mod];omega
 rw[h,IntKind.wrap_i64];omega
end
section
open Go.RowKit
variable{w:AT}{S:DO}{x y:BY}{r t:List Nd}
def ui(x:Int)(J:IN)(I:BY)(h:x=0)(w:AT):
  Calls prog 41 #[.agg #[V x],.iface J I,.bool true] w λe w'=>e=rW (.iface 100 (.agg #[V 0]))/\Bl w w':=by
 subst h;have H:=ah λW=>AL false W;go_in;go_wp2_with fail;refine(H.o _).mono ?_;rintro x w1 ⟨rfl,rfl⟩;go_wp2;go_ret;exact⟨rfl,r_.alloc n_ _⟩
def uj(x y:Int)(I:xM y)(h:x≠0)(w:AT):
  Calls prog 41 #[.agg #[V x],.iface 100 (.agg #[V y]),.bool true] w λe w'=>e=rW (.iface 100 (.agg #[V (boolN (decide (y≠0)))]))/\Bl w w':=by
 have J:(x != 0)=true:=by simp[h]
 have H:Hid (∀W,Calls prog 22 #[.iface 104 (.agg #[V 12,.iface 100 (.agg #[V y]),.iface 100 (.agg #[V 0])])] W λe w'=>e=rW (.iface 100 (.agg #[V (boolN (decide (y≠0)))]))/\Bl W w'):=λW=>by
  have:=j9 12 y 0 W
  rw[DR y I]at this;have e:(if y=0 then(0:Int)else 1)=boolN (decide (y≠0)):=by by_cases h:y=0 <;> simp[boolN,h]
  rw[e]at this;exact this
 generalize boolN (decide (y≠0))=bz at H⊢;go_in;go_wp2_with fail;refine(H.o _).mono ?_;rintro x w1 ⟨rfl,Ja⟩;go_wp2;go_ret;exact⟨rfl,(aq _ _).trans (Ja.mono i_)⟩
def uk(x:Int)(u:IN)(H:BY)(J:u≠100)(h:x≠0)(w:AT):
  Calls prog 41 #[.agg #[V x],.iface u H,.bool true] w λe w'=>e=rW (.iface 104 (.agg #[V 12,.iface u H,.iface 100 (.agg #[V 0])]))/\Bl w w':=by
 have O:(x != 0)=true:=by simp[h]
 have I:Hid (∀W,Calls prog 22 #[.iface 104 (.agg #[V 12,.iface u H,.iface 100 (.agg #[V 0])])] W λe w'=>e=rW (.iface 104 (.agg #[V 12,.iface u H,.iface 100 (.agg #[V 0])]))/\Bl W w'):=λW=>lz 12 u _ H _ J W;go_in;go_wp2_with fail;refine(I.o _).mono ?_;rintro x w1 ⟨rfl,Ja⟩;go_wp2;go_ret;exact⟨rfl,(aq _ _).trans (Ja.mono i_)⟩
def lC(x:Int)(I:IN)(H:BY)(Z:BY)(w:AT)(O:∀W,Calls prog 41 #[.agg #[V x],.iface I H,.bool true] W λe w'=>e=rW Z/\Bl W w'):
  Calls prog 22 #[.iface 107 (.agg #[.iface 100 (.agg #[V x]),.iface I H])] w λe w'=>e=rW Z/\Bl w w':=by
 have n1:=bu;have n2:=bj;have n3:=bK;have n4:=cZ;have Y:=aY;have y1:=cA;have y2:=bQ;have X:=cl;have U:=cT;have y5:=bD;have J:=ah O;go_in;go_wp2_with fail;refine(J.o _).mono ?_;rintro x w1 ⟨rfl,Ja⟩;go_wp2;go_ret;exact⟨rfl,((aq _ _).alloc i_ _).trans (Ja.mono Do)⟩
def wv(x:Int)(J:IN)(I:BY)(h:x≠0)(w:AT):
  Calls prog 41 #[.agg #[V x],.iface J I,.bool false] w λe w'=>e=rW (.iface 100 (.agg #[V 1]))/\Bl w w':=by
 have O:(x != 0)=true:=by simp[h]
 have H:=ah λW=>AL true W;go_in;go_wp2_with fail;refine(H.o _).mono ?_;rintro x w1 ⟨rfl,rfl⟩;go_wp2;go_ret;exact⟨rfl,r_.alloc n_ _⟩
def ww(x y:Int)(I:xM y)(h:x=0)(w:AT):
  Calls prog 41 #[.agg #[V x],.iface 100 (.agg #[V y]),.bool false] w λe w'=>e=rW (.iface 100 (.agg #[V (boolN (decide (y≠0)))]))/\Bl w w':=by
 subst h;have H:Hid (∀W,Calls prog 22 #[.iface 104 (.agg #[V 12,.iface 100 (.agg #[V y]),.iface 100 (.agg #[V 0])])] W λe w'=>e=rW (.iface 100 (.agg #[V (boolN (decide (y≠0)))]))/\Bl W w'):=λW=>by
  have:=j9 12 y 0 W
  rw[DR y I]at this;have e:(if y=0 then(0:Int)else 1)=boolN (decide (y≠0)):=by by_cases h:y=0 <;> simp[boolN,h]
  rw[e]at this;exact this
 generalize boolN (decide (y≠0))=bz at H⊢;go_in;go_wp2_with fail;refine(H.o _).mono ?_;rintro x w1 ⟨rfl,Ja⟩;go_wp2;go_ret;exact⟨rfl,(aq _ _).trans (Ja.mono i_)⟩
def wx(x:Int)(u:IN)(H:BY)(J:u≠100)(h:x=0)(w:AT):
  Calls prog 41 #[.agg #[V x],.iface u H,.bool false] w λe w'=>e=rW (.iface 104 (.agg #[V 12,.iface u H,.iface 100 (.agg #[V 0])]))/\Bl w w':=by
 subst h;have I:Hid (∀W,Calls prog 22 #[.iface 104 (.agg #[V 12,.iface u H,.iface 100 (.agg #[V 0])])] W λe w'=>e=rW (.iface 104 (.agg #[V 12,.iface u H,.iface 100 (.agg #[V 0])]))/\Bl W w'):=λW=>lz 12 u _ H _ J W;go_in;go_wp2_with fail;refine(I.o _).mono ?_;rintro x w1 ⟨rfl,Ja⟩;go_wp2;go_ret;exact⟨rfl,(aq _ _).trans (Ja.mono i_)⟩
def mZ(x:Int)(I:IN)(H:BY)(Z:BY)(w:AT)(O:∀W,Calls prog 41 #[.agg #[V x],.iface I H,.bool false] W λe w'=>e=rW Z/\Bl W w'):
  Calls prog 22 #[.iface 109 (.agg #[.iface 100 (.agg #[V x]),.iface I H])] w λe w'=>e=rW Z/\Bl w w':=by
 have n1:=bu;have n2:=bj;have n3:=bK;have n4:=cZ;have Y:=aY;have y1:=cA;have y2:=bQ;have X:=cl;have U:=cT;have y5:=bD;have J:=ah O;go_in;go_wp2_with fail;refine(J.o _).mono ?_;rintro x w1 ⟨rfl,Ja⟩;go_wp2;go_ret;exact⟨rfl,((aq _ _).alloc i_ _).trans (Ja.mono Do)⟩
theorem NG(op:Int)(U:0<=op)(h2:op<=2)(H:Tv w S x r)(h:∀a,gI r=some a->xM a)(O:∀B,S B->B<w.heap.size):
  Calls prog 22 #[.iface 98 (.agg #[V op,x])] w λe w'=>∃u,e=rW u/\Tv w' S u (match gI r with|some a=>iQ (Dl op a)|none=>r++[⟨6,op,⟨#[]⟩⟩])/\Bl w w':=by
 cases hr:gI r with
 | some a=>obtain rfl:=H.some hr;refine(Im op a U h2 (h a hr) w).mono ?_;rintro e w' ⟨rfl,h⟩;exact⟨_,rfl,.num _,h⟩
 | none=>obtain⟨t,J,rfl,I⟩:=H.none hr;refine(yS op t J I w).mono ?_;rintro e w' ⟨rfl,h⟩;exact⟨_,rfl,.un _ _ _ (H.bel O h),h⟩
theorem Ld(op:Int)(I:Tv w S x r)(H:Tv w S y t)(J:∀B,S B->B<w.heap.size):
  Calls prog 22 #[.iface 104 (.agg #[V op,x,y])] w λe w'=>∃u,e=rW u/\Tv w' S u (match gI r,gI t with|some a,some b=>iQ (cL op a b)|_,_=>r++t++[⟨7,op,⟨#[]⟩⟩])/\Bl w w':=by
 cases hr:gI r with
 | some a=>
  obtain rfl:=I.some hr;cases ht:gI t with
  | some b=>obtain rfl:=H.some ht;refine(j9 op a b w).mono ?_;rintro e w' ⟨rfl,h⟩;exact⟨_,rfl,.num _,h⟩
  | none=>obtain⟨u,O,rfl,U⟩:=H.none ht;refine(wu op a u O U w).mono ?_;rintro e w' ⟨rfl,h⟩;exact⟨_,rfl,.bin _ _ _ _ _ (I.bel J h) (H.bel J h),h⟩
 | none=>obtain⟨u,Y,rfl,U⟩:=I.none hr;obtain⟨X,O,rfl⟩:=H.isI;refine(lz op u X Y O U w).mono ?_;rintro e w' ⟨rfl,h⟩;exact⟨_,rfl,.bin _ _ _ _ _ (I.bel J h) (H.bel J h),h⟩
def nR{y:Int}(h:gI t=some y):eX t=iQ (boolN (decide (y≠0))):=by simp[eX,h]
def nS(h:gI t=none):eX t=t++[⟨1,0,⟨#[]⟩⟩]++[⟨7,12,⟨#[]⟩⟩]:=by simp[eX,h]
theorem Le(U:Tv w S x r)(I:Tv w S y t)(h:∀a,gI t=some a->xM a)(X:∀B,S B->B<w.heap.size):
  Calls prog 22 #[.iface 107 (.agg #[x,y])] w λe w'=>∃u,e=rW u/\Tv w' S u (match gI r with|some x=>if x=0 then iQ 0 else eX t|none=>r++t++[⟨8,0,⟨#[]⟩⟩])/\Bl w w':=by
 cases hr:gI r with
 | some x=>
  obtain rfl:=U.some hr;by_cases h0:x=0;obtain⟨J,H,rfl⟩:=I.isI;refine(lC x J H _ w (λW=>ui x J H h0 W)).mono ?_;rintro e w' ⟨rfl,h⟩;refine⟨_,rfl,?_,h⟩;simp only[h0,if_true,if_false];exact .num _;cases ht:gI t with
  | some y=>obtain rfl:=I.some ht;refine(lC x _ _ _ w (λW=>uj x y (h y ht) h0 W)).mono ?_;rintro e w' ⟨rfl,h⟩;refine⟨_,rfl,?_,h⟩;simp only[h0,if_true,if_false,nR ht];exact .num _
  | none=>obtain⟨u,H,rfl,O⟩:=I.none ht;refine(lC x _ _ _ w (λW=>uk x u H O h0 W)).mono ?_;rintro e w' ⟨rfl,h⟩;refine⟨_,rfl,?_,h⟩;simp only[h0,if_true,if_false,nS ht];exact .bin _ _ _ _ _ (I.bel X h) (.num _)
 | none=>obtain⟨u,Y,rfl,O⟩:=U.none hr;obtain⟨J,H,rfl⟩:=I.isI;refine(yT u J Y H O w).mono ?_;rintro e w' ⟨rfl,h⟩;exact⟨_,rfl,.and _ _ _ _ (U.bel X h) (I.bel X h),h⟩
theorem NH(U:Tv w S x r)(I:Tv w S y t)(h:∀a,gI t=some a->xM a)(X:∀B,S B->B<w.heap.size):
  Calls prog 22 #[.iface 109 (.agg #[x,y])] w λe w'=>∃u,e=rW u/\Tv w' S u (match gI r with|some x=>if x=0 then eX t else iQ 1|none=>r++t++[⟨9,0,⟨#[]⟩⟩])/\Bl w w':=by
 cases hr:gI r with
 | some x=>
  obtain rfl:=U.some hr;by_cases h0:x=0;cases ht:gI t with
  | some y=>obtain rfl:=I.some ht;refine(mZ x _ _ _ w (λW=>ww x y (h y ht) h0 W)).mono ?_;rintro e w' ⟨rfl,h⟩;refine⟨_,rfl,?_,h⟩;simp only[h0,if_true,if_false,nR ht];exact .num _
  | none=>obtain⟨u,H,rfl,O⟩:=I.none ht;refine(mZ x _ _ _ w (λW=>wx x u H O h0 W)).mono ?_;rintro e w' ⟨rfl,h⟩;refine⟨_,rfl,?_,h⟩;simp only[h0,if_true,if_false,nS ht];exact .bin _ _ _ _ _ (I.bel X h) (.num _)
  obtain⟨J,H,rfl⟩:=I.isI;refine(mZ x J H _ w (λW=>wv x J H h0 W)).mono ?_;rintro e w' ⟨rfl,h⟩;refine⟨_,rfl,?_,h⟩;simp only[h0,if_true,if_false];exact .num _
 | none=>obtain⟨u,Y,rfl,O⟩:=U.none hr;obtain⟨J,H,rfl⟩:=I.isI;refine(Ch u J Y H O w).mono ?_;rintro e w' ⟨rfl,h⟩;exact⟨_,rfl,.or _ _ _ _ (U.bel X h) (I.bel X h),h⟩
end
end Go.Proofs.YtngnoopnloojjaaGreatDoor
