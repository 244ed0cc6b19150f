import Derived.Test.YtffnkkpmlplfeaaGreatDoorF20
import Derived.Laws.AppendOwnNone
import Derived.Test.YtffnkkpmlplfeaaGreatDoorF03
namespace Go.Proofs.YtffnkkpmlplfeaaGreatDoor
open Go.Value Go.World List
open Go.Proofs.Tryz Go.RowKit
set_option linter.all false
set_option maxRecDepth 100000
set_option maxHeartbeats 0
variable[Inhabited Pick]
section
variable{w w':AT}{ns:List Nd}{B sz n:Nat}{v:BY}{row:Option Nat}{e:GC}{xs:List BY}
def l6(n:Nd):List BY:=[V n.kind,V n.val,sV n.name]
def dP(ns:List Nd):List BY:=ns.flatMap l6
theorem j7(h:List Nd):(dP h).length=h.length*3:=by
 induction h with
 | nil=>rfl
 | cons n r ih=>
  have:dP (n::r)=l6 n++dP r:=rfl
  rw[this,l_a,ih];simp[l6];omega
def jJ(a b:List Nd):dP (a++b)=dP a++dP b:=by simp[dP]
theorem qC(h:List Nd)(j:Nat)(U:j<h.length):(dP h)[j*3]? =some (V h[j].kind)/\(dP h)[j*3+1]? =some (V h[j].val)/\(dP h)[j*3+2]? =some (sV h[j].name):=by
 induction h generalizing j with
 | nil=>simp at U
 | cons n r ih=>
  have e:dP (n::r)=l6 n++dP r:=rfl;cases j with
  | zero=>rw[e];simp[l6]
  | succ j=>
   have:=ih j (Fc U)
   rw[e];have J:(j+1)*3=j*3+3:=o_;have I:(l6 n).length=3:=rfl;refine⟨?_,?_,?_⟩
   ·rw[J,getElem?_append_right o_,I];simpa using this.1
   ·rw[J,getElem?_append_right o_,I,show j*3+3+1-3=j*3+1 by omega];simpa using this.2.1
   ·rw[J,getElem?_append_right o_,I,show j*3+3+2-3=j*3+2 by omega];simpa using this.2.2
def qD(ns:List Nd)(i:Nat)(hi:i<ns.length*3):∃j,j<ns.length/\(i=j*3∨i=j*3+1∨i=j*3+2):=⟨i / 3,o_,o_⟩
def em(g off j:Nat):(⟨g,off,none⟩:Addr).add j=⟨g,off+j,none⟩:=by
 simp[Addr.add];try (intro h;omega)
theorem me{b off:Nat}(h:iq w b off ns):∀i u,(dP ns)[i]? =some u->w.cell? ((⟨b,off,none⟩:Addr).add i)=some u:=by
 intro i u I;have hi:i<ns.length*3:=by rw[<-j7];exact(List.getElem?_eq_some_iff.1 I).1
 obtain⟨j,J,he⟩:=qD ns i hi;obtain⟨f0,Z,U⟩:=qC ns j J;obtain⟨c0,c1,Y⟩:=h j J;rw[em];rcases he with rfl|rfl|rfl
 ·rw[f0]at I;cases I;exact c0
 ·rw[Z]at I;cases I;rw[<-Nat.add_assoc];exact c1
 ·rw[U]at I;cases I;rw[<-Nat.add_assoc];exact Y
def nU(J:List Nd):∀u∈dP J,u.oneCell'=true:=by
 intro u h;simp only[dP,mem_flatMap]at h;obtain⟨n,_,I⟩:=h;simp only[l6,mem_cons,not_mem_nil,or_false]at I;rcases I with rfl|rfl|rfl <;> rfl
def aV(B:Nat)(w:AT)(v:BY)(ns:List Nd):Prop:=w.ownsRow B 134 3 v ns.length (dP ns)
def aV.nodes(h:aV B w v ns):aw w v ns:=by
 have I:=h;obtain⟨hl,h⟩:=h;rcases h with⟨rfl,hz⟩|⟨g,Ja,Jd,rfl,hg,hh,Jc,Jb,Jf,Je⟩
 ·exact⟨none,0,by rw[hz],o_,o_,λh=>absurd h o_⟩
 ·refine⟨_,Ja,rfl,Jc,by simp only[maxLen]at Jb;omega,λ_=>⟨g,0,rfl,λj hj=>?_⟩⟩;obtain⟨Z,f1,f2⟩:=qC ns j hj;have U:=ownsRow.cells I (g:=g) rfl _ _ Z;have J:=ownsRow.cells I (g:=g) rfl _ _ f1;have Y:=ownsRow.cells I (g:=g) rfl _ _ f2;rw[em]at U J Y;exact⟨U,by rw[Nat.add_assoc];exact J,by rw[Nat.add_assoc];exact Y⟩
def aV.below(h:aV B w v ns)(hb:Bl w w'):aV B w' v ns:=by
 obtain⟨Y,I⟩:=h;refine⟨Y,?_⟩;rcases I with I|⟨g,Jb,Z,rfl,g3,J,U⟩
 ·exact .inl I
 ·refine .inr ⟨g,Jb,Z,rfl,g3,?_,U⟩;rw[hb.block g (Array.getElem?_eq_some_iff.1 J).1];exact J
def nW:(prog.info? 134).map (λi=>(i.zero,i.size,i.bytes))=some (some (.agg #[V 0,V 0,sV ⟨#[]⟩]),3,32):=by kernel_rfl
def aw.grown(h:aw w v ns)(hg:w.grownBy w' row)(Jd:∀g,v.ownBlock=some g->row≠some g):aw w' v ns:=by
 obtain⟨a,Z,rfl,h1,h2,h⟩:=h;refine⟨a,Z,rfl,h1,h2,λh0=>?_⟩;obtain⟨b,I,rfl,hc⟩:=h h0;refine⟨b,I,rfl,λj hj=>?_⟩;obtain⟨U,c1,Y⟩:=hc j hj;have Jb:=b_ U;have J:=hg.block b Jb (λe=>Jd b rfl e.symm);exact⟨(c_ (a:=⟨b,I+j*3,none⟩) J).trans U,(c_ (a:=⟨b,I+j*3+1,none⟩) J).trans c1,(c_ (a:=⟨b,I+j*3+2,none⟩) J).trans Y⟩
def Di(h:w.ownsRow B e sz v n xs)(hg:w.grownBy w' row)(Jc:∀g,v.ownBlock=some g->row≠some g):w'.ownsRow B e sz v n xs:=by
 obtain⟨Y,I⟩:=h;refine⟨Y,?_⟩;rcases I with I|⟨g,Jb,Z,rfl,g3,J,U⟩
 ·exact .inl I
 ·refine .inr ⟨g,Jb,Z,rfl,g3,?_,U⟩;rw[hg.block g (Array.getElem?_eq_some_iff.1 J).1 (λe=>Jc g rfl e.symm)];exact J
def ownB(h:w.ownsRow B e sz v n xs)(hb:Bl w w'):w'.ownsRow B e sz v n xs:=by
 obtain⟨Y,I⟩:=h;refine⟨Y,?_⟩;rcases I with I|⟨g,Jb,Z,rfl,g3,J,U⟩
 ·exact .inl I
 ·refine .inr ⟨g,Jb,Z,rfl,g3,?_,U⟩;rw[hb.block g (Array.getElem?_eq_some_iff.1 J).1];exact J
section
variable{w:AT}
end
def kA{ops:Array Oper}{U:List Oper}{o:Oper}{a:Act}{Q:Exit->Act->AT->Prop}(Ji:o.guard=none)(s x:Operand)
  (ho:o.op=.call {callee:=.builtin .append,args:=#[s,x],argTypes:=#[130,130]})
  (B:Nat) (v:BY) (J:List Nd) (hs:a.eval s=v) (Jc:aV B w v J) (u:BY) (I:List Nd) (hx:a.eval x=u) (hN:aw w u I)
  (hp:0<I.length) (hb:J.length+I.length<=10000000) (Ja:B<=w.heap.size)
  (h:∀v' w',aV B w' v' (J++I)->w.grownBy w' v.ownBlock->(∀k,v'.ownBlock=some k->v.ownBlock=some k∨w.heap.size<=k)->wpList prog ops Q U (a.put o.dst v') w'):wpList prog ops Q (o::U) a w:=by
 obtain⟨Y,hi,Jf,Jg,Jd⟩:=info_parts nW;obtain⟨ad,Jh,rfl,Jk,Jj,hc⟩:=hN;obtain⟨b,Je,rfl,Z⟩:=hc hp;refine cD (w:=w) Ji s x _ ho B _ Y _ 3 32 underlying130 hi Jf Jg Jd rfl d_ v J.length (dP J) hs Jc ⟨b,Je,none⟩ I.length Jh (dP I) hx (j7 I) (me Z) (nU I) o_ o_ Ja λv' w' h1 h2 h3=>h v' w' ?_ h2 h3;unfold aV;rw[l_a,jJ];exact h1
end
def dW(b:Bool)(w:AT):Calls prog 165 #[.bool b] w λe w'=>e=rW (V (boolN b))/\w'=w:=by
 cases b
 ·go_in;go_wp2;go_ret;exact⟨rfl,rfl⟩
 ·go_in;go_wp2;go_ret;exact⟨rfl,rfl⟩
def yS(a:Int)(h: -2147483648<=a/\a<=2147483647):bits .xor .i64 (-1) a= -1-a:=by
 rw[Ap.bits_xor _ _ ⟨d_,d_⟩ h];have e:bits .xor .i32 (-1) a=IntKind.i32.wrap (((BitVec.ofInt 32 (-1)) ^^^ (BitVec.ofInt 32 a)).toNat:Int):=rfl;rw[e,Ap.wrap_toNat32];have J:BitVec.ofInt 32 (-1)=BitVec.allOnes 32:=d_;rw[J,BitVec.allOnes_xor,BitVec.toInt_not];have I:(BitVec.ofInt 32 a).toNat=(a%4294967296).toNat:=by simp[BitVec.toNat_ofInt]
 rw[I];have h3:(0:Int)<=a%4294967296:=o_;simp only[Int.bmod];omega
def Bn(I a:Int)(h0:0<=I)(h2:I<=2)(Z:et a)(w:AT):Calls prog 166 #[V I,V a] w λe w'=>e=rW (V (kM I a))/\w'=w:=by
 obtain⟨U,J⟩:=Z;have:I=0∨I=1∨I=2:=by omega
 rcases this with rfl|rfl|rfl
 ·have X:Hid (kM 0 a=wrap32 (-a)):=by show _=_;simp[kM,A1]
  have Y:Hid (wrap64 (wrap32 (-a))=wrap32 (-a)):=Ap.w64_32 _;go_in;go_wp2
  all_goals go_ret
  all_goals refine⟨Ap.ret_intA ?_,rfl⟩
  all_goals first|exact X.o.symm|exact Y.o.trans X.o.symm
 ·by_cases hz:a=0
  ·subst hz;go_in;go_wp2
   all_goals go_ret
   all_goals exact⟨rfl,rfl⟩
  ·have X:Hid (kM 1 a=0):=by show _=_;simp[kM,boolN,hz]
   have Jc:(a == 0)=false:=by simp[hz]
   go_in;go_wp2
   all_goals go_ret
   all_goals exact⟨Ap.ret_intA X.o.symm,rfl⟩
 ·have X:Hid (kM 2 a= -1-a):=by show _=_;simp only[kM,A1];rw[if_neg d_,if_neg d_];exact Ap.w32_id _ ⟨o_,o_⟩
  go_in;go_wp2
  all_goals go_ret
  all_goals refine⟨Ap.ret_intA ?_,rfl⟩
  all_goals first|exact X.o.symm|(rw[X.o];exact yS a ⟨U,J⟩)
def Bo(I a:Int)(h0:0<=I)(h2:I<=2)(Z:et a)(w:AT):Calls prog 186 #[V I,V a] w λe w'=>e=rW (V (kM I a))/\w'=w:=by
 obtain⟨U,J⟩:=Z;have:I=0∨I=1∨I=2:=by omega
 rcases this with rfl|rfl|rfl
 ·have X:Hid (kM 0 a=wrap32 (-a)):=by show _=_;simp[kM,A1]
  have Y:Hid (wrap64 (wrap32 (-a))=wrap32 (-a)):=Ap.w64_32 _;go_in;go_wp2
  all_goals go_ret
  all_goals refine⟨Ap.ret_intA ?_,rfl⟩
  all_goals first|exact X.o.symm|exact Y.o.trans X.o.symm
 ·by_cases hz:a=0
  ·subst hz;go_in;go_wp2
   all_goals go_ret
   all_goals exact⟨rfl,rfl⟩
  ·have X:Hid (kM 1 a=0):=by show _=_;simp[kM,boolN,hz]
   have Jc:(a == 0)=false:=by simp[hz]
   go_in;go_wp2
   all_goals go_ret
   all_goals exact⟨Ap.ret_intA X.o.symm,rfl⟩
 ·have X:Hid (kM 2 a= -1-a):=by show _=_;simp only[kM,A1];rw[if_neg d_,if_neg d_];exact Ap.w32_id _ ⟨o_,o_⟩
  go_in;go_wp2
  all_goals go_ret
  all_goals refine⟨Ap.ret_intA ?_,rfl⟩
  all_goals first|exact X.o.symm|(rw[X.o];exact yS a ⟨U,J⟩)
section
variable{B n cap:Nat}{w:AT}{v:BY}{us:List BY}{a:Option Addr}{P:Program}{ops:Array Oper}{o:Oper}
def ul:(prog.info? 183).map (λi=>(i.zero,i.size,i.bytes))=some (some .nilIface,1,16):=by kernel_rfl
def gB(B:Nat)(w:AT)(v:BY)(us:List BY):Prop:=w.ownsRow B 183 1 v us.length us
def gB.form(h:gB B w v us):∃a cap,v=.slice a us.length cap/\us.length<=cap/\cap<=9223372036854775807/\(a=none->us=[])/\(∀ad,a=some ad->∃g,ad=⟨g,0,none⟩/\B<=g/\g<w.heap.size/\∀j u,us[j]? =some u->DO w g j u):=by
 have I:=h;rcases h.2 with⟨rfl,J⟩|⟨g,cap,Je,rfl,Y,hg,Z,U,Jf,Ja⟩
 ·refine⟨none,0,by rw[J],o_,o_,λ_=>GG J,λad hh=>?_⟩;cases hh
 ·refine⟨_,cap,rfl,Z,by unfold maxLen at U;omega,λhh=>?_,λad hh=>?_⟩
  ·cases hh
  ·simp only[GD]at hh;refine⟨g,hh.symm,Y,(ownsRow.lt I g rfl).2,λj u hj=>?_⟩;have:=ownsRow.cells I (g:=g) rfl j u hj
   rw[em]at this;simpa using this
def gB.head(h:gB B w (.slice a n cap) us)(I:Nat)(Jh:I<=us.length):gB B w (.slice a I cap) (us.take I):=by
 have U:(us.take I).length=I:=by simp;omega
 rcases h.2 with⟨J,hn⟩|⟨g,Je,Jb,J,Jc,hg,Jg,Jd,Y,Z⟩
 ·simp only[Value.slice.injEq]at J;obtain⟨rfl,rfl,rfl⟩:=J;have:I=0:=by omega
  subst this;refine⟨i_,.inl ⟨i_,i_⟩⟩
 ·simp only[Value.slice.injEq]at J;obtain⟨rfl,rfl,rfl⟩:=J;refine⟨i_,.inr ⟨g,cap,Jb,by rw[U],Jc,hg,by rw[U];omega,Jd,Y,?_⟩⟩;rw[U,<-Z,take_take,Nat.mul_one,Nat.mul_one,Nat.min_eq_left o_]
def gB.own(h:gB B w v us)(g:Nat)(hg:v.ownBlock=some g):B<=g/\g<w.heap.size:=ownsRow.lt h g hg
def Src(w:AT)(v:BY)(us:List BY):Prop:=∃a cap,v=.slice a us.length cap/\(a=none->us=[])/\∀ad,a=some ad->∀j u,us[j]? =some u->w.cell? (ad.add j)=some u
def Src.below{w':AT}(h:Src w v us)(U:Bl w w'):Src w' v us:=by
 obtain⟨a,I,rfl,J,h2⟩:=h;refine⟨a,I,rfl,J,λad he j u hj=>?_⟩;have:=h2 ad he j u hj;exact(U.cell (p:=ad.add j) (b_ this)).trans this
theorem gB.tail(h:gB B w (.slice a n cap) us)(I:Nat)(Jd:I<=us.length):Src w (.slice (if cap=I then a else a.map (·.add (I*1))) (n-I) (cap-I)) (us.drop I):=by
 obtain⟨a',Jb,J,Jc,_,Z,h2⟩:=h.form;simp only[Value.slice.injEq]at J;obtain⟨rfl,rfl,rfl⟩:=J;refine⟨_,_,by rw[List.length_drop],λhh=>?_,λad hh j u hj=>?_⟩
 ·have U:a=none:=by
   split at hh
   ·exact hh
   ·cases a with
    | none=>rfl
    | some x=>cases hh
  rw[Z U];simp
 ·have Y:=(List.getElem?_eq_some_iff.mp hj).1;rw[List.length_drop]at Y;rw[if_neg o_]at hh;cases a with
  | none=>cases hh
  | some x=>
   simp only[Option.map_some,Option.some.injEq]at hh;obtain⟨g,rfl,_,_,h3⟩:=h2 x rfl;subst hh;rw[List.getElem?_drop]at hj;have:=h3 _ _ hj;rw[em,em];simpa using this
theorem qE(base:Nat)(t J e:GC)(i:TypeInfo)(z:BY)(I:P.underlying t=some (.slice e))(U:P.info? e=some i)(hz:i.zero=some z)
  (Jb:i.size=1) (Jg:i.bytes=16) (Jh:z.cells.size=1)
  (v:BY) (h:List BY) (Y:w.ownsRow base e 1 v h.length h) (x:BY) (us:List BY) (hx:Src w x us) (h1:∀u∈us,u.oneCell'=true)
  (hm:h.length+us.length<=10000000) (Jc:base<=w.heap.size):
  ∃v' w',(Builtin.append_ #[t,t] J #[v,x]).run P w=.ok v' w'/\w'.ownsRow base e 1 v' (h++us).length (h++us)/\w.grownBy w' v.ownBlock/\∀k,v'.ownBlock=some k->v.ownBlock=some k∨w.heap.size<=k:=by
 obtain⟨a,Z,rfl,h2,h3⟩:=hx;cases a with
 | none=>
  obtain rfl:=h2 rfl;have hr:(Builtin.append_ #[t,t] J #[v,.slice none ([]:List BY).length Z]).run P w=.ok v w:=by
   rcases Y.2 with⟨rfl,hn⟩|⟨g,Jf,Ji,rfl,_,_,Je,_⟩
   ·simp[Builtin.append_,run_underlying I,sizeOf,typeInfo,U,Builtin.lenOf,Builtin.firstCells]
   ·simp[Builtin.append_,run_underlying I,sizeOf,typeInfo,U,Builtin.lenOf,Builtin.firstCells,Je,storeCells]
  refine⟨v,w,hr,Fc Y,⟨rfl,rfl,rfl,n_,λ_ _ _=>rfl⟩,λk hk=>.inl hk⟩
 | some ad=>
  obtain⟨v',w',r1,r2,r3,r4⟩:=fM (P:=P) (w:=w) base t J e i z 1 16 I U hz Jb Jg Jh d_ v h.length h Y ad us.length Z us i_ (h3 ad rfl) h1 hm d_ Jc;exact⟨v',w',r1,by rw[l_a];exact r2,r3,r4⟩
def nX{a:Act}{K:Act->AT->Prop}{Q:Exit->Act->AT->Prop}{E:Prop}(Jd:o.guard=none)(s x:Operand)(t:GC)
  (ho:o.op=.call {callee:=.builtin .append,args:=#[s,x],argTypes:=#[t,t]})
  (base:Nat) (e:GC) (i:TypeInfo) (z:BY) (Z:P.underlying t=some (.slice e)) (hi:P.info? e=some i) (hz:i.zero=some z)
  (Ja:i.size=1) (Jf:i.bytes=16) (Jg:z.cells.size=1)
  (v:BY) (I:List BY) (hs:a.eval s=v) (Jc:w.ownsRow base e 1 v I.length I) (J:BY) (us:List BY) (Je:a.eval x=J) (hx:Src w J us) (h1:∀u∈us,u.oneCell'=true)
  (hm:I.length+us.length<=10000000) (Jb:base<=w.heap.size)
  (h:∀v' w',w'.ownsRow base e 1 v' (I++us).length (I++us)->w.grownBy w' v.ownBlock->(∀k,v'.ownBlock=some k->v.ownBlock=some k∨w.heap.size<=k)->K (a.put o.dst v') w'):
  if Region.wanted o (yielded ops a.tmps)=true then Oper.wp P o a w K Q else E:=by
 have U:Region.wanted o (yielded ops a.tmps)=true:=by simp[Region.wanted,Jd]
 rw[if_pos U];obtain⟨v',w',Y,h2,h3,h4⟩:=qE (P:=P) (w:=w) base t o.type e i z Z hi hz Ja Jf Jg v I Jc J us hx h1 hm Jb;unfold Oper.wp execOp;simp only[ho,resolve,invoke,builtin,Sem.run_bind,Sem.run_pure,Result.andThen_ok,map_toArray,map_cons,map_nil,hs,Je,Y];exact h v' w' h2 h3 h4
def qF{U:List Oper}{a:Act}{Q:Exit->Act->AT->Prop}(Je:o.guard=none)(s x:Operand)(t:GC)
  (ho:o.op=.call {callee:=.builtin .append,args:=#[s,x],argTypes:=#[t,t]})
  (base:Nat) (e:GC) (i:TypeInfo) (z:BY) (Z:P.underlying t=some (.slice e)) (hi:P.info? e=some i) (hz:i.zero=some z)
  (Ja:i.size=1) (Jg:i.bytes=16) (Jh:z.cells.size=1)
  (v:BY) (I:List BY) (hs:a.eval s=v) (Jd:w.ownsRow base e 1 v I.length I) (J:BY) (us:List BY) (Jf:a.eval x=J) (hx:Src w J us) (h1:∀u∈us,u.oneCell'=true)
  (hm:I.length+us.length<=10000000) (Jb:base<=w.heap.size)
  (h:∀v' w',w'.ownsRow base e 1 v' (I++us).length (I++us)->w.grownBy w' v.ownBlock->(∀k,v'.ownBlock=some k->v.ownBlock=some k∨w.heap.size<=k)->wpList P ops Q U (a.put o.dst v') w'):wpList P ops Q (o::U) a w:=by
 refine wpList_plain Je λK hK=>?_;obtain⟨v',w',Y,h2,h3,h4⟩:=qE (P:=P) (w:=w) base t o.type e i z Z hi hz Ja Jg Jh v I Jd J us hx h1 hm Jb;unfold Oper.wp execOp;simp only[ho,resolve,invoke,builtin,Sem.run_bind,Sem.run_pure,Result.andThen_ok,map_toArray,map_cons,map_nil,hs,Jf,Y];exact hK _ _ (h v' w' h2 h3 h4)
theorem yT(v:BY)(us:List BY)(w:AT)(hl:us.length<=2097152)(h:Src w v us)(h1:∀u∈us,u.oneCell'=true):
  Calls prog 176 #[v] w λe w'=>∃u,e=rW u/\gB w.heap.size w' u us/\Bl w w':=by
 obtain⟨U,hi,Jf,Z,Je⟩:=info_parts ul;have hs:=h.below ((Below.refl w.heap.size w).alloc n_ (.cells #[] 183));obtain⟨a,I,rfl,ha,hr⟩:=h;cases a with
 | none=>
  obtain rfl:=ha rfl;simp only[l_n];have Jd:∀w:AT,(binOp .eql 226 (.slice none 0 I) nV).run prog w=.ok (.bool true) w:=λw=>Lib.run_eql_slice_nil w 226 183 none 0 I 0 0 underlying226;go_in;go_wp2
  go_ret;exact⟨_,rfl,ownsRow_nil _ _ _ _,r_⟩
 | some ad=>
  have Jd:∀w:AT,(binOp .eql 226 (.slice (some ad) us.length I) nV).run prog w=.ok (.bool false) w:=λw=>Lib.run_eql_slice_nil w 226 183 (some ad) us.length I 0 0 underlying226;go_in;go_wp2_with(at_builtin;refine qF rfl _ _ 226 rfl w.heap.size 183 U .nilIface underlying226 hi Jf Z Je rfl _ [] rfl (ownsRow_lit w #[] 0 n_ d_ rfl) _ us rfl hs h1 ZFs i_ ?_)
  intro v' w1 J Y _;have hb:Bl w w1:=(au _ _).grown Y i_ (by simp[ownBlock]);try rw[nil_append]at J
  have HL:=ah J;go_wp2;go_ret;exact⟨_,rfl,HL,hb⟩
end
section
variable{B n:Nat}{w:AT}{v:BY}{xs:List BY}
def aO{T:GC}{J:Nat}{S:D6}{w':AT}(h:w.ownsRow B T J v n xs)(ht:ak S w w')(hS:∀k,v.ownBlock=some k->¬S k):w'.ownsRow B T J v n xs:=by
 obtain⟨I,h|⟨g,Z,U,rfl,Y,h2,h3⟩⟩:=h
 ·exact⟨I,.inl h⟩
 ·exact⟨I,.inr ⟨g,Z,U,rfl,Y,(ht.block g (Array.getElem?_eq_some_iff.1 h2).1 (hS g rfl)).trans h2,h3⟩⟩
def bj{size:Nat}{e:GC}(h:w.ownsRow B e size v n xs):∃a c,v=.slice a n c/\(a=none->n=0):=by
 rcases h.2 with⟨rfl,I⟩|⟨g,J,U,rfl,_⟩
 ·exact⟨none,0,by rw[I],λ_=>I⟩
 ·exact⟨_,J,rfl,(λh=>by cases h)⟩
end
abbrev pu:=List Nd×List Nd×BY
def vsJ(L:List pu)(i:Nat):BY:=(L.getD i ([],[],.nilIface)).2.2
def fsJ(L:List pu)(i:Nat):List Nd:=(L.getD i ([],[],.nilIface)).2.1
structure RJ (w wr:AT) (e:List Nd) (k:Nat) (v:BY) (T:List pu) (S:D6):Prop where
 flat:(T.map (·.1)).flatten=e.take k
 each:∀t∈T,aP t.1=true/\t.2.1=t.1/\Tv wr S t.2.2 t.2.1
 row:gB w.heap.size wr v (T.map (·.2.2))
 sep:∀B,S B->w.heap.size<=B/\B<wr.heap.size/\v.ownBlock≠some B
 bel:Bl w wr
def RJ.below{w wr w':AT}{e:List Nd}{k:Nat}{v:BY}{T:List pu}{S:D6}(h:RJ w wr e k v T S)(I:Bl wr w'):RJ w w' e k v T S:=by
 refine⟨h.flat,λt ht=>⟨(h.each t ht).1,(h.each t ht).2.1,(h.each t ht).2.2.bel (λB hB=>(h.sep B hB).2.1) I⟩,ownB h.row I,λB hB=>?_,h.bel.trans (I.mono h.bel.size)⟩;have:=h.sep B hB;exact⟨this.1,l_ this.2.1 I.size,this.2.2⟩
def RJ.one{w wr:AT}{e:List Nd}{k:Nat}{v:BY}{T:List pu}{S:D6}(h:RJ w wr e k v T S):∀u∈T.map (·.2.2),u.oneCell'=true:=by
 intro u I;simp only[mem_map]at I;obtain⟨t,U,rfl⟩:=I;obtain⟨a,b,J⟩:=(h.each t U).2.2.isI;rw[J];rfl
def RJ.segs{w wr:AT}{e:List Nd}{k:Nat}{v:BY}{T:List pu}{S:D6}(h:RJ w wr e k v T S):∀s∈T.map (·.1),aP s=true:=by
 intro s I;simp only[mem_map]at I;obtain⟨t,J,rfl⟩:=I;exact(h.each t J).1
def mR(S:D6)(u:BY)(B:Nat):Prop:=S B∨u.ownBlock=some B
theorem RJ.kids{w wr w3:AT}{e:List Nd}{k:Nat}{v:BY}{T:List pu}{S:D6}(h:RJ w wr e k v T S)(I A:Nat)(Jf:I+A=T.length)(hb:Bl wr w3){u:BY}(Z:gB wr.heap.size w3 u ((T.drop I).map (·.2.2))):
  fY w3 (mR S u) u A (vsJ (T.drop I))/\(∀i,i<A->Tv w3 (mR S u) (vsJ (T.drop I) i) (fsJ (T.drop I) i))/\∀B,mR S u B->B<w3.heap.size:=by
 have Jb:(T.drop I).length=A:=by simp;omega
 have U:∀i (J:i<A),(T.drop I).getD i ([],[],.nilIface)=(T.drop I)[i]'(by omega)/\(T.drop I)[i]'(by omega)∈T:=by
  intro i J;refine⟨by simp[List.getD,GH (show i<(T.drop I).length by omega)],GK (g_ _)⟩
 refine⟨?_,λi J=>?_,λB hB=>?_⟩
 ·obtain⟨a,Jc,rfl,Y,h2,h3,h4⟩:=Z.form;simp only[GN,Jb]at Y⊢;refine⟨a,Jc,rfl,Y,h2,λh0=>?_⟩;cases a with
  | none=>
   have:=h3 rfl
   have h5:=congrArg List.length this;simp only[GN,l_n]at h5;omega
  | some ad=>
   obtain⟨g,rfl,Jd,Je,hc⟩:=h4 ad rfl;refine⟨g,rfl,.inr rfl,λi J=>?_⟩;refine hc i _ ?_;rw[getElem?_map,GH (show i<(T.drop I).length by omega),Option.map_some,vsJ,(U i J).1]
 ·have:=(h.each _ (U i J).2).2.2
  rw[vsJ,fsJ,(U i J).1];exact this.keep (λB hB=>.inl hB) (λB hB=>hb.block B (h.sep B hB).2.1)
 ·rcases hB with hB|hB
  ·exact l_ (h.sep B hB).2.1 hb.size
  ·exact(Z.own B hB).2
theorem RJ.step{w wr w3 w4 w5 w6:AT}{e:List Nd}{k:Nat}{v v' u U:BY}{T:List pu}{S:D6}(h:RJ w wr e k v T S)(hk:k<e.length)(I A:Nat)(Jl:I+A=T.length)(hn:aD e[k]=true)(hA:arity e[k]=A)
  (hb:Bl wr w3) (hu:gB wr.heap.size w3 u ((T.drop I).map (·.2.2))) (Jf:Bl w3 w4) (hT:Tv w4 (mR S u) U (eU (fsJ (T.drop I)) A++[e[k]])) (Jg:Bl w4 w5)
  (hr:gB w.heap.size w6 v' ((T.take I).map (·.2.2)++[U])) (J:w5.grownBy w6 v.ownBlock) (hf:∀g,v'.ownBlock=some g->v.ownBlock=some g∨w5.heap.size<=g):
  ∃T' S',RJ w w6 e (k+1) v' T' S':=by
 have Jj:∀g,v.ownBlock=some g->w.heap.size<=g/\g<wr.heap.size:=λg J=>h.row.own g J;have Jc:Bl wr w5:=(hb.trans (Jf.mono hb.size)).trans (Jg.mono (t_ hb.size Jf.size));have Y:∀B,mR S u B->B<w3.heap.size/\w.heap.size<=B/\v.ownBlock≠some B:=by
  intro B hB;rcases hB with hB|hB
  ·exact⟨l_ (h.sep B hB).2.1 hb.size,(h.sep B hB).1,(h.sep B hB).2.2⟩
  ·have Z:=hu.own B hB;have h2:=h.bel.size;refine⟨Z.2,o_,λhh=>?_⟩;have:=Jj B hh
   omega
 have Jk:w3.heap.size<=w5.heap.size:=t_ Jf.size Jg.size;have Jb:∀B,mR S u B->w6.heap[B]? =w5.heap[B]? := λB hB=>J.block B (by have:=(Y B hB).1;omega) (λhh=>(Y B hB).2.2 hh.symm);refine⟨T.take I++[(((T.drop I).map (·.1)).flatten++[e[k]],eU (fsJ (T.drop I)) A++[e[k]],U)],mR S u,?_,?_,?_,?_,?_⟩
 ·simp only[map_append,map_cons,map_nil,flatten_append,flatten_cons,flatten_nil,append_nil];rw[<-append_assoc,<-flatten_append,<-map_append,take_append_drop,h.flat,take_succ_eq_append_getElem hk]
 ·intro t ht;rw[GJ]at ht;rcases ht with ht|ht
  ·have:=h.each t (mem_of_mem_take ht)
   refine⟨this.1,this.2.1,this.2.2.keep (λB hB=>.inl hB) (λB hB=>?_)⟩;rw[Jb B (.inl hB)];exact Jc.block B (h.sep B hB).2.1
  ·simp only[GM]at ht;subst ht;have Jd:∀s∈(T.drop I).map (·.1),aP s=true:=by
    intro s hs;simp only[mem_map]at hs;obtain⟨t,ht,rfl⟩:=hs;exact(h.each t (GK ht)).1
   have Je:((T.drop I).map (·.1)).length=A:=by simp;omega
   refine⟨fk _ _ hn (by rw[Je,hA]) Jd,?_,hT.keep (λ_ hB=>hB) (λB hB=>?_)⟩
   ·have hj:∀m,m<=A->eU (fsJ (T.drop I)) m=(((T.drop I).map (·.1)).take m).flatten:=by
     intro m;induction m with
     | zero=>intro _;rfl
     | succ m ih=>
      intro hm;have Ji:m<(T.drop I).length:=by simp;omega
      rw[eU,ih o_,take_succ_eq_append_getElem (Fc Ji),flatten_append];simp only[getElem_map,flatten_cons,flatten_nil,append_nil];congr 1;rw[fsJ];simp only[List.getD,GH Ji,Option.getD_some];exact(h.each _ (GK (g_ _))).2.1
    rw[hj A n_,take_of_length_le (by rw[Je];exact n_)]
   ·rw[Jb B hB];exact Jg.block B (by have:=(Y B hB).1;have:=Jf.size;omega)
 ·have e1:(T.take I++[(((T.drop I).map (·.1)).flatten++[e[k]],eU (fsJ (T.drop I)) A++[e[k]],U)]).map (·.2.2)=(T.take I).map (·.2.2)++[U]:=i_
  rw[e1];exact hr
 ·intro B hB;have Z:=Y B hB;refine⟨Z.2.1,Ft J.size,λhh=>?_⟩;rcases hf B hh with h2|h2
  ·exact Z.2.2 h2
  ·omega
 ·have Jh:Bl w w5:=h.bel.trans (Jc.mono h.bel.size);exact Jh.grown J Jh.size (λg J=>(Jj g J).1)
theorem RJ.fin{w wr:AT}{e:List Nd}{v:BY}{T:List pu}{S:D6}(h:RJ w wr e e.length v T S)(Y:aP e=true):∃u g,(∃cap,v=rV g 1 cap)/\DO wr g 0 u/\Tv wr S u e:=by
 have I:T.map (·.1)=[e]:=xP Y h.segs (by rw[h.flat,take_length]);have U:T.length=1:=by have:=congrArg List.length I;simpa using this
 obtain⟨t,rfl⟩:=length_eq_one_iff.1 U;simp only[map_cons,map_nil,List.cons.injEq,and_true]at I;have h2:=h.each t i_;rw[I]at h2;rw[h2.2.1]at h2;obtain⟨a,cap,J,_,_,h5,h6⟩:=h.row.form;cases a with
 | none=>have:=h5 rfl;simp at this
 | some ad=>
  obtain⟨g,rfl,_,_,h7⟩:=h6 ad rfl;exact⟨t.2.2,g,⟨cap,J⟩,h7 0 _ i_,h2.2.2⟩
end Go.Proofs.YtffnkkpmlplfeaaGreatDoor
