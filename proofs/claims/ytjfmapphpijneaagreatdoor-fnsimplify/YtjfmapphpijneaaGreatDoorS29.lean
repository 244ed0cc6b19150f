import Derived.Test.YtjfmapphpijneaaGreatDoorRows
import Derived.WalkSpells
import Derived.Laws.AppendOwnNone
import Derived.Test.YtjfmapphpijneaaGreatDoorS26
import Derived.Test.YtjfmapphpijneaaGreatDoorS03
namespace Go.Proofs.YtjfmapphpijneaaGreatDoor
set_option linter.all false
set_option maxRecDepth 100000
set_option maxHeartbeats 0
open Go.Value Go.World List Go.Proofs.Tryz Go.RowKit
variable[Inhabited Pick]
abbrev kl(I T u:JZ)(v r:BY)(W:AT):Prop:=(Instr.typeAssert (.iface u v) I T true).run prog W=.ok r W
def eV{I T u:JZ}{z v:BY}{W:AT}(e:∀(u:JZ) v,(Instr.typeAssert (.iface u v) I T true).run prog W=(if u=T then(pure (Value.tuple #[v,.bool true]):Sem BY)else(do pure (Value.tuple #[<-zeroValue T,.bool false]))).run prog W)(J:((do pure (Value.tuple #[<-zeroValue T,.bool false])):Sem BY).run prog W=.ok (.tuple #[z,.bool false]) W)(h:u≠T):kl I T u v (.tuple #[z,.bool false]) W:=by show _=_;rw[e,if_neg h];exact J
def bQ(W:AT)(v:BY):kl 127 157 157 v (.tuple #[v,.bool true]) W:=by show _=_;kernel_rfl
def aS(W:AT)(u:JZ)(v:BY)(h:u≠157):kl 127 157 u v (.tuple #[.agg #[V 0],.bool false]) W:=eV (λ_ _=>by kernel_rfl) k_ h
def oP(W:AT)(v:BY):kl 127 199 199 v (.tuple #[v,.bool true]) W:=by show _=_;kernel_rfl
def cW(W:AT)(u:JZ)(v:BY)(h:u≠199):kl 127 199 u v (.tuple #[.agg #[sV ⟨#[]⟩],.bool false]) W:=eV (λ_ _=>by kernel_rfl) k_ h
def i9(W:AT)(v:BY):kl 127 201 201 v (.tuple #[v,.bool true]) W:=by show _=_;kernel_rfl
def cR(W:AT)(u:JZ)(v:BY)(h:u≠201):kl 127 201 u v (.tuple #[.agg #[sV ⟨#[]⟩,.nilIface],.bool false]) W:=eV (λ_ _=>by kernel_rfl) k_ h
def mz(W:AT)(v:BY):kl 127 203 203 v (.tuple #[v,.bool true]) W:=by show _=_;kernel_rfl
def dN(W:AT)(u:JZ)(v:BY)(h:u≠203):kl 127 203 u v (.tuple #[.agg #[sV ⟨#[]⟩,nV],.bool false]) W:=eV (λ_ _=>by kernel_rfl) k_ h
def dm(W:AT)(v:BY):kl 127 205 205 v (.tuple #[v,.bool true]) W:=by show _=_;kernel_rfl
def df(W:AT)(u:JZ)(v:BY)(h:u≠205):kl 127 205 u v (.tuple #[.agg #[V 0,.nilIface],.bool false]) W:=eV (λ_ _=>by kernel_rfl) k_ h
def cY(W:AT)(v:BY):kl 127 207 207 v (.tuple #[v,.bool true]) W:=by show _=_;kernel_rfl
def cX(W:AT)(u:JZ)(v:BY)(h:u≠207):kl 127 207 u v (.tuple #[.agg #[V 0,.nilIface,.nilIface],.bool false]) W:=eV (λ_ _=>by kernel_rfl) k_ h
def cZ(W:AT)(v:BY):kl 127 209 209 v (.tuple #[v,.bool true]) W:=by show _=_;kernel_rfl
def cL(W:AT)(u:JZ)(v:BY)(h:u≠209):kl 127 209 u v (.tuple #[.agg #[.nilIface,.nilIface],.bool false]) W:=eV (λ_ _=>by kernel_rfl) k_ h
def dC(W:AT)(v:BY):kl 127 210 210 v (.tuple #[v,.bool true]) W:=by show _=_;kernel_rfl
def dK(W:AT)(u:JZ)(v:BY)(h:u≠210):kl 127 210 u v (.tuple #[.agg #[.nilIface,.nilIface],.bool false]) W:=eV (λ_ _=>by kernel_rfl) k_ h
def mA(W:AT)(v:BY):kl 124 164 164 v (.tuple #[v,.bool true]) W:=by show _=_;kernel_rfl
def ch(W:AT)(u:JZ)(v:BY)(h:u≠164):kl 124 164 u v (.tuple #[.agg #[sV ⟨#[]⟩,.nilIface],.bool false]) W:=eV (λ_ _=>by kernel_rfl) k_ h
def oQ(W:AT)(v:BY):kl 124 165 165 v (.tuple #[v,.bool true]) W:=by show _=_;kernel_rfl
def dq(W:AT)(u:JZ)(v:BY)(h:u≠165):kl 124 165 u v (.tuple #[.agg #[sV ⟨#[]⟩,.nilIface],.bool false]) W:=eV (λ_ _=>by kernel_rfl) k_ h
def kV(W:AT)(v:BY):kl 124 167 167 v (.tuple #[v,.bool true]) W:=by show _=_;kernel_rfl
def cT(W:AT)(u:JZ)(v:BY)(h:u≠167):kl 124 167 u v (.tuple #[.agg #[sV ⟨#[]⟩,.nilIface,.nilIface],.bool false]) W:=eV (λ_ _=>by kernel_rfl) k_ h
def lO(W:AT)(v:BY):kl 124 155 155 v (.tuple #[v,.bool true]) W:=by show _=_;kernel_rfl
def em(W:AT)(u:JZ)(v:BY)(h:u≠155):kl 124 155 u v (.tuple #[.agg #[.nilIface,nV,nV],.bool false]) W:=eV (λ_ _=>by kernel_rfl) k_ h
def gJ(W:AT)(v:BY):kl 124 160 160 v (.tuple #[v,.bool true]) W:=by show _=_;kernel_rfl
def eo(W:AT)(u:JZ)(v:BY)(h:u≠160):kl 124 160 u v (.tuple #[.agg #[.nilIface,nV],.bool false]) W:=eV (λ_ _=>by kernel_rfl) k_ h
def iB(W:AT)(v:BY):kl 124 129 129 v (.tuple #[v,.bool true]) W:=by show _=_;kernel_rfl
def fN(W:AT)(u:JZ)(v:BY)(h:u≠129):kl 124 129 u v (.tuple #[.agg #[.nilIface],.bool false]) W:=eV (λ_ _=>by kernel_rfl) k_ h
def oR(W:AT)(v:BY):kl 124 168 168 v (.tuple #[v,.bool true]) W:=by show _=_;kernel_rfl
def qS(W:AT)(u:JZ)(v:BY)(h:u≠168):kl 124 168 u v (.tuple #[.agg #[.nilIface],.bool false]) W:=eV (λ_ _=>by kernel_rfl) k_ h
section
variable{w w':AT}{ns:List Nd}{B sz n:Nat}{v:BY}{row:Option Nat}{e:JZ}{xs:List BY}
def fe(n:Nd):List BY:=[V n.kd,V n.val,sV n.nm]
def eO(ns:List Nd):List BY:=ns.flatMap fe
theorem lR(h:List Nd):(eO h).length=h.length*3:=by
 induction h with
 | nil=>rfl
 | cons n r ih=>
  have:eO (n::r)=fe n++eO r:=rfl
  rw[this,l_a,ih];simp[fe];omega
def kX(a b:List Nd):eO (a++b)=eO a++eO b:=by simp[eO]
theorem uA(h:List Nd)(j:Nat)(U:j<h.length):(eO h)[j*3]? =some (V h[j].kd)/\(eO h)[j*3+1]? =some (V h[j].val)/\(eO h)[j*3+2]? =some (sV h[j].nm):=by
 induction h generalizing j with
 | nil=>simp at U
 | cons n r ih=>
  have e:eO (n::r)=fe n++eO r:=rfl;cases j with
  | zero=>rw[e];simp[fe]
  | succ j=>
   have:=ih j (IN U)
   rw[e];have J:(j+1)*3=j*3+3:=o_;have I:(fe n).length=3:=rfl;refine⟨?_,?_,?_⟩;rw[J,getElem?_append_right o_,I];simpa using this.1;rw[J,getElem?_append_right o_,I,show j*3+3+1-3=j*3+1 by omega];simpa using this.2.1;rw[J,getElem?_append_right o_,I,show j*3+3+2-3=j*3+2 by omega];simpa using this.2.2
def uB(ns:List Nd)(i:Nat)(hi:i<ns.length*3):∃j,j<ns.length/\(i=j*3\/i=j*3+1\/i=j*3+2):=⟨i / 3,o_,o_⟩
def dk(g off j:Nat):(⟨g,off,none⟩:Addr).add j=⟨g,off+j,none⟩:=by simp[Addr.add];try (intro h;omega)
def o5{b off:Nat}(h:fZ w b off ns):∀i u,(eO ns)[i]? =some u->w.cell? ((⟨b,off,none⟩:Addr).add i)=some u:=by
 intro i u I;have hi:i<ns.length*3:=by rw[<-lR];exact(List.getElem?_eq_some_iff.1 I).1
 have⟨j,J,he⟩:=uB ns i hi;have⟨f0,f1,U⟩:=uA ns j J;have⟨c0,c1,Z⟩:=h j J;rw[dk];rcases he with rfl|rfl|rfl
 rw[f0]at I;cases I;exact c0;rw[f1]at I;cases I;rw[<-Nat.add_assoc];exact c1;rw[U]at I;cases I;rw[<-Nat.add_assoc];exact Z
def q9(J:List Nd):∀u∈eO J,u.oneCell'=true:=by intro u h;simp only[eO,mem_flatMap]at h;obtain⟨n,_,I⟩:=h;simp only[fe,mem_cons,not_mem_nil,or_false]at I;rcases I with rfl|rfl|rfl <;> rfl
def aW(B:Nat)(w:AT)(v:BY)(ns:List Nd):Prop:=w.ownsRow B 81 3 v ns.length (eO ns)
def aW.nodes(h:aW B w v ns):aC w v ns:=by have I:=h;obtain⟨hl,h⟩:=h;rcases h with⟨rfl,hz⟩|⟨g,Ja,Jd,rfl,hg,hh,Jc,Jb,Jf,Je⟩;exact⟨none,0,by rw[hz],o_,o_,λh=>absurd h o_⟩;refine⟨_,Ja,rfl,Jc,by simp only[maxLen]at Jb;omega,λ_=>⟨g,0,rfl,λj hj=>?_⟩⟩;have⟨f0,f1,f2⟩:=uA ns j hj;have U:=ownsRow.cells I (g:=g) rfl _ _ f0;have J:=ownsRow.cells I (g:=g) rfl _ _ f1;have Z:=ownsRow.cells I (g:=g) rfl _ _ f2;rw[dk]at U J Z;exact⟨U,by rw[Nat.add_assoc];exact J,by rw[Nat.add_assoc];exact Z⟩
def aW.below(h:aW B w v ns)(hb:Bl w w'):aW B w' v ns:=by obtain⟨Z,I⟩:=h;refine⟨Z,?_⟩;rcases I with I|⟨g,Jb,Ja,rfl,g3,J,U⟩;exact .inl I;refine .inr ⟨g,Jb,Ja,rfl,g3,?_,U⟩;rw[hb.block g (Array.getElem?_eq_some_iff.1 J).1];exact J
def rg:(prog.info? 81).map (λi=>(i.zero,i.size,i.bytes))=some (some (.agg #[V 0,V 0,sV ⟨#[]⟩]),3,32):=by kernel_rfl
def aC.grown(h:aC w v ns)(hg:w.grownBy w' row)(Jd:∀g,v.ownBlock=some g->row≠some g):aC w' v ns:=by obtain⟨a,Jc,rfl,Z,h2,h⟩:=h;refine⟨a,Jc,rfl,Z,h2,λh0=>?_⟩;obtain⟨b,Ja,rfl,hc⟩:=h h0;refine⟨b,Ja,rfl,λj hj=>?_⟩;have⟨J,c1,U⟩:=hc j hj;have Jb:=b_ J;have I:=hg.block b Jb (λe=>Jd b rfl e.symm);exact⟨(c_ (a:=⟨b,Ja+j*3,none⟩) I).trans J,(c_ (a:=⟨b,Ja+j*3+1,none⟩) I).trans c1,(c_ (a:=⟨b,Ja+j*3+2,none⟩) I).trans U⟩
def An(h:w.ownsRow B e sz v n xs)(hg:w.grownBy w' row)(Jc:∀g,v.ownBlock=some g->row≠some g):w'.ownsRow B e sz v n xs:=by obtain⟨Z,I⟩:=h;refine⟨Z,?_⟩;rcases I with I|⟨g,Jb,Ja,rfl,g3,J,U⟩;exact .inl I;refine .inr ⟨g,Jb,Ja,rfl,g3,?_,U⟩;rw[hg.block g (Array.getElem?_eq_some_iff.1 J).1 (λe=>Jc g rfl e.symm)];exact J
def ownB(h:w.ownsRow B e sz v n xs)(hb:Bl w w'):w'.ownsRow B e sz v n xs:=by obtain⟨Z,I⟩:=h;refine⟨Z,?_⟩;rcases I with I|⟨g,Jb,Ja,rfl,g3,J,U⟩;exact .inl I;refine .inr ⟨g,Jb,Ja,rfl,g3,?_,U⟩;rw[hb.block g (Array.getElem?_eq_some_iff.1 J).1];exact J
section
variable{w:AT}
end
def jF{ops:Array Oper}{Jb:List Oper}{o:Oper}{a:Act}{Q:Exit->Act->AT->Prop}(Ji:o.guard=none)(s x:Operand)
  (ho:o.op=.call {callee:=.builtin .append,args:=#[s,x],argTypes:=#[77,77]})
  (B:Nat) (v:BY) (J:List Nd) (hs:a.eval s=v) (Jc:aW B w v J) (u:BY) (I:List Nd) (hx:a.eval x=u) (hN:aC w u I)
  (hp:0<I.length) (hb:J.length+I.length<=10000000) (Ja:B<=w.heap.size)
  (h:∀v' w',aW B w' v' (J++I)->w.grownBy w' v.ownBlock->(∀k,v'.ownBlock=some k->v.ownBlock=some k\/w.heap.size<=k)->wpList prog ops Q Jb (a.put o.dst v') w'):wpList prog ops Q (o::Jb) a w:=by
 have⟨U,hi,Jf,Jg,Jd⟩:=info_parts rg;obtain⟨ad,Jh,rfl,Jk,Jj,hc⟩:=hN;obtain⟨b,Je,rfl,Z⟩:=hc hp;refine cQ (w:=w) Ji s x _ ho B _ U _ 3 32 underlying77 hi Jf Jg Jd rfl d_ v J.length (eO J) hs Jc ⟨b,Je,none⟩ I.length Jh (eO I) hx (lR I) (o5 Z) (q9 I) o_ o_ Ja λv' w' h1 h2 h3=>h v' w' ?_ h2 h3;unfold aW;rw[l_a,kX];exact h1
end
section
variable{B B':Nat}{w w':AT}{v:BY}{ns:List Nd}{K:List Nat}{R:List SV}
def dH(B:Nat)(w:AT)(v:BY)(ns:List Nd)(K:List Nat):Prop:=(ns=[]/\K=[]/\∃a c,v=.slice a 0 c/\c<=9223372036854775807)\/∃g cap,v=rV g ns.length cap/\K=[g]/\ns.length<=cap/\cap<=9223372036854775807/\B<=g/\g<w.heap.size/\fZ w g 0 ns/\∀j,j<ns.length*3->w.frozen? ⟨g,j,none⟩=false
def dH.nil(B:Nat)(w:AT):dH B w nV [] []:=.inl ⟨rfl,rfl,none,0,rfl,o_⟩
def dH.nodes(h:dH B w v ns K):aC w v ns:=by rcases h with⟨rfl,-,a,c,rfl,J⟩|⟨g,Ja,rfl,-,I,h2,_,_,h3,_⟩;exact⟨a,c,rfl,y_,J,λh=>absurd h (Nat.lt_irrefl _)⟩;exact⟨_,Ja,rfl,I,h2,λ_=>⟨g,0,rfl,h3⟩⟩
def dH.base(h:dH B w v ns K)(J:B'<=B):dH B' w v ns K:=by rcases h with h|⟨g,Ja,I,h2,h3,h4,h5,h6⟩;exact .inl h;exact .inr ⟨g,Ja,I,h2,h3,h4,t_ J h5,h6⟩
def dH.rng(h:dH B w v ns K):∀g∈K,B<=g/\g<w.heap.size:=by rcases h with⟨-,rfl,-⟩|⟨g,Ja,-,rfl,-,-,h5,h6,-⟩;intro g J;cases J;intro x I;simp only[J7]at I;subst I;exact⟨h5,h6⟩
def dH.keep(h:dH B w v ns K)(U:w.heap.size<=w'.heap.size)(Z:∀g∈K,w'.heap[g]? =w.heap[g]?):dH B w' v ns K:=by
 rcases h with h|⟨g,Ja,J,rfl,h3,h4,h5,h6,h7,h8⟩;exact .inl h;have e:=Z g i_;have I:∀o,w'.cell? ⟨g,o,none⟩=w.cell? ⟨g,o,none⟩:=λo=>c_ (a:=⟨g,o,none⟩) e;refine .inr ⟨g,Ja,J,rfl,h3,h4,h5,l_ h6 U,λj hj=>?_,λj hj=>?_⟩
 have⟨a,b,c⟩:=h7 j hj;exact⟨(I _).trans a,(I _).trans b,(I _).trans c⟩
 have:w'.frozen? ⟨g,j,none⟩=w.frozen? ⟨g,j,none⟩:=frozen?_of_block (a:=⟨g,j,none⟩) e
 exact this.trans (h8 j hj)
structure bP (B:Nat) (w:AT) (v:BY) (R:List SV):Prop where
 row:w.ownsRow B 79 6 v R.length (bO R)
 each:∀q∈R,dH B w q.ve q.s.e q.ke/\dH B w q.vf q.s.f q.kf
 nd:(dP R).Nodup
 out:∀g,v.ownBlock=some g->g∉dP R
def bP.rng(h:bP B w v R):∀g∈dP R,B<=g/\g<w.heap.size:=by intro g hg;simp only[dP,mem_flatMap,J5]at hg;obtain⟨q,I,hg|hg⟩:=hg;exact(h.each q I).1.rng g hg;exact(h.each q I).2.rng g hg
def bP.nil(B:Nat)(w:AT):bP B w nV []:=⟨ownsRow_nil _ _ _ _,λq hq=>(by cases hq),nodup_nil,λg hg=>(by simp[ownBlock]at hg)⟩
def bP.base(h:bP B w v R)(I:B'<=B):bP B' w v R:=by refine⟨?_,λq hq=>⟨(h.each q hq).1.base I,(h.each q hq).2.base I⟩,h.nd,h.out⟩;have⟨J,h2⟩:=h.row;refine⟨J,?_⟩;rcases h2 with h2|⟨g,Jb,Ja,e,h3,h4,h5⟩;exact .inl h2;exact .inr ⟨g,Jb,Ja,e,t_ I h3,h4,h5⟩
def gK{q:SV}(h:q∈R):(∀g∈q.ke,g∈dP R)/\∀g∈q.kf,g∈dP R:=by refine⟨λg hg=>?_,λg hg=>?_⟩;exact mem_flatMap.2 ⟨q,h,J5.2 (.inl hg)⟩;exact mem_flatMap.2 ⟨q,h,J5.2 (.inr hg)⟩
def bP.below(h:bP B w v R)(I:Bl w w'):bP B w' v R:=by refine⟨ownB h.row I,λq hq=>⟨(h.each q hq).1.keep I.size λg hg=>I.block g (h.rng g ((gK hq).1 g hg)).2,(h.each q hq).2.keep I.size λg hg=>I.block g (h.rng g ((gK hq).2 g hg)).2⟩,h.nd,h.out⟩
def bP.shape(h:bP B w v R):∃a c,v=.slice a R.length c:=by rcases h.row.2 with⟨rfl,I⟩|⟨g,Ja,Jb,rfl,_⟩;exact⟨none,0,by rw[I]⟩;exact⟨_,Ja,rfl⟩
end
section
variable{B n cap:Nat}{w:AT}{v:BY}{us:List BY}{a:Option Addr}{P:Program}{ops:Array Oper}{o:Oper}
def nA:(prog.info? 127).map (λi=>(i.zero,i.size,i.bytes))=some (some .nilIface,1,16):=by kernel_rfl
def ff(B:Nat)(w:AT)(v:BY)(us:List BY):Prop:=w.ownsRow B 127 1 v us.length us
def ff.form(h:ff B w v us):∃a cap,v=.slice a us.length cap/\us.length<=cap/\cap<=9223372036854775807/\(a=none->us=[])/\(∀ad,a=some ad->∃g,ad=⟨g,0,none⟩/\B<=g/\g<w.heap.size/\∀j u,us[j]? =some u->DO w g j u):=by have I:=h;rcases h.2 with⟨rfl,J⟩|⟨g,cap,Je,rfl,Jb,U,Jd,Jc,Jf,Ja⟩;refine⟨none,0,by rw[J],o_,o_,λ_=>J3 J,λad hh=>?_⟩;cases hh;refine⟨_,cap,rfl,Jd,by unfold maxLen at Jc;omega,λhh=>?_,λad hh=>?_⟩;cases hh;simp only[J0]at hh;refine⟨g,hh.symm,Jb,(ownsRow.lt I g rfl).2,λj u hj=>?_⟩;have:=ownsRow.cells I (g:=g) rfl j u hj;rw[dk]at this;simpa using this
def ff.head(h:ff B w (.slice a n cap) us)(I:Nat)(Jh:I<=us.length):ff B w (.slice a I cap) (us.take I):=by
 have U:(us.take I).length=I:=by simp;omega
 rcases h.2 with⟨J,hn⟩|⟨g,Je,Jb,J,Jc,Z,Jg,Jd,Jf,Ja⟩;simp only[Value.slice.injEq]at J;obtain⟨rfl,rfl,rfl⟩:=J;have:I=0:=by omega
 subst this;refine⟨i_,.inl ⟨i_,i_⟩⟩;simp only[Value.slice.injEq]at J;obtain⟨rfl,rfl,rfl⟩:=J;refine⟨i_,.inr ⟨g,cap,Jb,by rw[U],Jc,Z,by rw[U];omega,Jd,Jf,?_⟩⟩;rw[U,<-Ja,take_take,Nat.mul_one,Nat.mul_one,Nat.min_eq_left o_]
def ff.own(h:ff B w v us)(g:Nat)(hg:v.ownBlock=some g):B<=g/\g<w.heap.size:=ownsRow.lt h g hg
def Src(w:AT)(v:BY)(us:List BY):Prop:=∃a cap,v=.slice a us.length cap/\(a=none->us=[])/\∀ad,a=some ad->∀j u,us[j]? =some u->w.cell? (ad.add j)=some u
def Src.below{w':AT}(h:Src w v us)(J:Bl w w'):Src w' v us:=by obtain⟨a,Ja,rfl,I,h2⟩:=h;refine⟨a,Ja,rfl,I,λad he j u hj=>?_⟩;have:=h2 ad he j u hj;exact(J.cell (p:=ad.add j) (b_ this)).trans this
theorem ff.tail(h:ff B w (.slice a n cap) us)(I:Nat)(Jd:I<=us.length):Src w (.slice (if cap=I then a else a.map (·.add (I*1))) (n-I) (cap-I)) (us.drop I):=by
 have⟨a',Jb,J,Jc,_,Z,h2⟩:=h.form;simp only[Value.slice.injEq]at J;obtain⟨rfl,rfl,rfl⟩:=J;refine⟨_,_,by rw[List.length_drop],λhh=>?_,λad hh j u hj=>?_⟩
 have U:a=none:=by
  split at hh;exact hh;cases a with
  | none=>rfl
  | some x=>cases hh
 rw[Z U];simp;have Ja:=(List.getElem?_eq_some_iff.mp hj).1;rw[List.length_drop]at Ja;rw[if_neg o_]at hh;cases a with
 | none=>cases hh
 | some x=>simp only[Option.map_some,J0]at hh;obtain⟨g,rfl,_,_,h3⟩:=h2 x rfl;subst hh;rw[List.getElem?_drop]at hj;have:=h3 _ _ hj;rw[dk,dk];simpa using this
theorem uC(base:Nat)(t J e:JZ)(i:TypeInfo)(z:BY)(I:P.underlying t=some (.slice e))(U:P.info? e=some i)(hz:i.zero=some z)
  (Jb:i.size=1) (Jg:i.bytes=16) (Jh:z.cells.size=1)
  (v:BY) (h:List BY) (Ja:w.ownsRow base e 1 v h.length h) (x:BY) (us:List BY) (hx:Src w x us) (h1:∀u∈us,u.oneCell'=true)
  (hm:h.length+us.length<=10000000) (Jc:base<=w.heap.size):
  ∃v' w',(Builtin.append_ #[t,t] J #[v,x]).run P w=.ok v' w'/\w'.ownsRow base e 1 v' (h++us).length (h++us)/\w.grownBy w' v.ownBlock/\∀k,v'.ownBlock=some k->v.ownBlock=some k\/w.heap.size<=k:=by
 obtain⟨a,Jd,rfl,h2,h3⟩:=hx;cases a with
 | none=>
  obtain rfl:=h2 rfl;have hr:(Builtin.append_ #[t,t] J #[v,.slice none ([]:List BY).length Jd]).run P w=.ok v w:=by rcases Ja.2 with⟨rfl,hn⟩|⟨g,Jf,Ji,rfl,_,_,Je,_⟩;simp[Builtin.append_,run_underlying I,sizeOf,typeInfo,U,Builtin.lenOf,Builtin.firstCells];simp[Builtin.append_,run_underlying I,sizeOf,typeInfo,U,Builtin.lenOf,Builtin.firstCells,Je,storeCells]
  refine⟨v,w,hr,IN Ja,⟨rfl,rfl,rfl,n_,λ_ _ _=>rfl⟩,λk hk=>.inl hk⟩
 | some ad=>have⟨v',w',r1,Z,r3,r4⟩:=gW (P:=P) (w:=w) base t J e i z 1 16 I U hz Jb Jg Jh d_ v h.length h Ja ad us.length Jd us i_ (h3 ad rfl) h1 hm d_ Jc;exact⟨v',w',r1,by rw[l_a];exact Z,r3,r4⟩
def j_{a:Act}{K:Act->AT->Prop}{Q:Exit->Act->AT->Prop}{E:Prop}(Jd:o.guard=none)(s x:Operand)(t:JZ)
  (ho:o.op=.call {callee:=.builtin .append,args:=#[s,x],argTypes:=#[t,t]})
  (base:Nat) (e:JZ) (i:TypeInfo) (z:BY) (ht:P.underlying t=some (.slice e)) (hi:P.info? e=some i) (hz:i.zero=some z)
  (Ja:i.size=1) (Jf:i.bytes=16) (Jg:z.cells.size=1)
  (v:BY) (I:List BY) (hs:a.eval s=v) (Jc:w.ownsRow base e 1 v I.length I) (J:BY) (us:List BY) (Je:a.eval x=J) (hx:Src w J us) (h1:∀u∈us,u.oneCell'=true)
  (hm:I.length+us.length<=10000000) (Jb:base<=w.heap.size)
  (h:∀v' w',w'.ownsRow base e 1 v' (I++us).length (I++us)->w.grownBy w' v.ownBlock->(∀k,v'.ownBlock=some k->v.ownBlock=some k\/w.heap.size<=k)->K (a.put o.dst v') w'):
  if Region.wanted o (yielded ops a.tmps)=true then Oper.wp P o a w K Q else E:=by
 have U:Region.wanted o (yielded ops a.tmps)=true:=by simp[Region.wanted,Jd]
 rw[if_pos U];have⟨v',w',Z,h2,h3,h4⟩:=uC (P:=P) (w:=w) base t o.type e i z ht hi hz Ja Jf Jg v I Jc J us hx h1 hm Jb;unfold Oper.wp execOp;simp only[ho,resolve,invoke,builtin,Sem.run_bind,Sem.run_pure,Result.andThen_ok,map_toArray,map_cons,map_nil,hs,Je,Z];exact h v' w' h2 h3 h4
def mC{Jc:List Oper}{a:Act}{Q:Exit->Act->AT->Prop}(Je:o.guard=none)(s x:Operand)(t:JZ)
  (ho:o.op=.call {callee:=.builtin .append,args:=#[s,x],argTypes:=#[t,t]})
  (base:Nat) (e:JZ) (i:TypeInfo) (z:BY) (Z:P.underlying t=some (.slice e)) (hi:P.info? e=some i) (hz:i.zero=some z)
  (Ja:i.size=1) (Jg:i.bytes=16) (Jh:z.cells.size=1)
  (v:BY) (I:List BY) (hs:a.eval s=v) (Jd:w.ownsRow base e 1 v I.length I) (J:BY) (us:List BY) (Jf:a.eval x=J) (hx:Src w J us) (h1:∀u∈us,u.oneCell'=true)
  (hm:I.length+us.length<=10000000) (Jb:base<=w.heap.size)
  (h:∀v' w',w'.ownsRow base e 1 v' (I++us).length (I++us)->w.grownBy w' v.ownBlock->(∀k,v'.ownBlock=some k->v.ownBlock=some k\/w.heap.size<=k)->wpList P ops Q Jc (a.put o.dst v') w'):wpList P ops Q (o::Jc) a w:=by
 refine wpList_plain Je λK hK=>?_;have⟨v',w',U,h2,h3,h4⟩:=uC (P:=P) (w:=w) base t o.type e i z Z hi hz Ja Jg Jh v I Jd J us hx h1 hm Jb;unfold Oper.wp execOp;simp only[ho,resolve,invoke,builtin,Sem.run_bind,Sem.run_pure,Result.andThen_ok,map_toArray,map_cons,map_nil,hs,Jf,U];exact hK _ _ (h v' w' h2 h3 h4)
theorem uD(v:BY)(us:List BY)(w:AT)(hl:us.length<=2097152)(h:Src w v us)(h1:∀u∈us,u.oneCell'=true):
  Calls prog 118 #[v] w λe w'=>∃u,e=rW u/\ff w.heap.size w' u us/\Bl w w':=by
 have⟨I,hi,Jf,Jg,Je⟩:=info_parts nA;have Z:=h.below ((Below.refl w.heap.size w).alloc n_ (.cells #[] 127));obtain⟨a,Jc,rfl,ha,hr⟩:=h;cases a with
 | none=>
  obtain rfl:=ha rfl;simp only[l_n];have Jd:∀w:AT,(binOp .eql 186 (.slice none 0 Jc) nV).run prog w=.ok (.bool true) w:=λw=>Lib.run_eql_slice_nil w 186 127 none 0 Jc 0 0 underlying186;go_in;go_wp2
  go_ret;exact⟨_,rfl,ownsRow_nil _ _ _ _,r_⟩
 | some ad=>
  have Jd:∀w:AT,(binOp .eql 186 (.slice (some ad) us.length Jc) nV).run prog w=.ok (.bool false) w:=λw=>Lib.run_eql_slice_nil w 186 127 (some ad) us.length Jc 0 0 underlying186;go_in;go_wp2_with(at_builtin;refine mC rfl _ _ 186 rfl w.heap.size 127 I .nilIface underlying186 hi Jf Jg Je rfl _ [] rfl (ownsRow_lit w #[] 0 n_ d_ rfl) _ us rfl Z h1 H6 i_ ?_)
  intro v' w1 Ja Jb _;have U:Bl w w1:=(ao _ _).grown Jb i_ (by simp[ownBlock]);try rw[nil_append]at Ja
  have J:=ah Ja;go_wp2;go_ret;exact⟨_,rfl,J,U⟩
end
section
variable{B n:Nat}{w:AT}{v:BY}{xs:List BY}
def fP{T:JZ}{J:Nat}{S:Ft}{w':AT}(h:w.ownsRow B T J v n xs)(ht:aj S w w')(Z:∀k,v.ownBlock=some k->¬S k):w'.ownsRow B T J v n xs:=by obtain⟨I,h|⟨g,Jb,Ja,rfl,U,h2,h3⟩⟩:=h;exact⟨I,.inl h⟩;exact⟨I,.inr ⟨g,Jb,Ja,rfl,U,(ht.block g (Array.getElem?_eq_some_iff.1 h2).1 (Z g rfl)).trans h2,h3⟩⟩
def jf{size:Nat}{e:JZ}(h:w.ownsRow B e size v n xs):∃a c,v=.slice a n c/\(a=none->n=0):=by rcases h.2 with⟨rfl,I⟩|⟨g,Ja,Jb,rfl,_⟩;exact⟨none,0,by rw[I],λ_=>I⟩;exact⟨_,Ja,rfl,(λh=>by cases h)⟩
end
def GZ(a:Int)(h: -2147483648<=a/\a<=2147483647):bits .xor .i64 (-1) a= -1-a:=by
 rw[Ap.bits_xor _ _ ⟨d_,d_⟩ h];have e:bits .xor .i32 (-1) a=IntKind.i32.wrap (((BitVec.ofInt 32 (-1)) ^^^ (BitVec.ofInt 32 a)).toNat:Int):=rfl;rw[e,Ap.wrap_toNat32];have J:BitVec.ofInt 32 (-1)=BitVec.allOnes 32:=d_;rw[J,BitVec.allOnes_xor,BitVec.toInt_not];have I:(BitVec.ofInt 32 a).toNat=(a%4294967296).toNat:=by simp[BitVec.toNat_ofInt]
 rw[I];have h3:(0:Int)<=a%4294967296:=o_;simp only[Int.bmod];omega
def yP(J a:Int)(h0:0<=J)(h2:J<=2)(Z:d7 a)(w:AT):Calls prog 123 #[V J,V a] w λe w'=>e=rW (V (rT J a))/\w'=w:=by
 obtain⟨Jb,Ja⟩:=Z;have:J=0\/J=1\/J=2:=by omega
 rcases this with rfl|rfl|rfl
 ·have I:Hid (rT 0 a=wrap32 (-a)):=by show _=_;simp[rT,Ge]
  have U:Hid (wrap64 (wrap32 (-a))=wrap32 (-a)):=Ap.w64_32 _;go_in;go_wp2
  all_goals go_ret
  all_goals refine⟨Ap.ret_intA ?_,rfl⟩
  all_goals first|exact I.o.symm|exact U.o.trans I.o.symm
 ·by_cases hz:a=0
  ·subst hz;go_in;go_wp2
   all_goals go_ret
   all_goals exact⟨rfl,rfl⟩
  have I:Hid (rT 1 a=0):=(by show _=_;simp[rT,boolN,hz]);have Jc:(a == 0)=false:=(by simp[hz]);go_in;go_wp2
  all_goals go_ret
  all_goals exact⟨Ap.ret_intA I.o.symm,rfl⟩
 have I:Hid (rT 2 a= -1-a):=by show _=_;simp only[rT,Ge];rw[if_neg d_,if_neg d_];exact Ap.w32_id _ ⟨o_,o_⟩
 go_in;go_wp2
 all_goals go_ret
 all_goals refine⟨Ap.ret_intA ?_,rfl⟩
 all_goals first|exact I.o.symm|(rw[I.o];exact GZ a ⟨Jb,Ja⟩)
abbrev sE:=List Nd×List Nd×BY
def vsJ(L:List sE)(i:Nat):BY:=(L.getD i ([],[],.nilIface)).2.2
def fsJ(L:List sE)(i:Nat):List Nd:=(L.getD i ([],[],.nilIface)).2.1
structure RJ (w wr:AT) (e:List Nd) (k:Nat) (v:BY) (T:List sE) (S:Ft):Prop where
 flat:(T.map (·.1)).flatten=e.take k
 each:∀t∈T,oneB t.1=true/\t.2.1=t.1/\Tv wr S t.2.2 t.2.1
 row:ff w.heap.size wr v (T.map (·.2.2))
 sep:∀B,S B->w.heap.size<=B/\B<wr.heap.size/\v.ownBlock≠some B
 bel:Bl w wr
def RJ.below{w wr w':AT}{e:List Nd}{k:Nat}{v:BY}{T:List sE}{S:Ft}(h:RJ w wr e k v T S)(I:Bl wr w'):RJ w w' e k v T S:=by refine⟨h.flat,λt ht=>⟨(h.each t ht).1,(h.each t ht).2.1,(h.each t ht).2.2.bel (λB hB=>(h.sep B hB).2.1) I⟩,ownB h.row I,λB hB=>?_,h.bel.trans (I.mono h.bel.size)⟩;have:=h.sep B hB;exact⟨this.1,l_ this.2.1 I.size,this.2.2⟩
def RJ.one{w wr:AT}{e:List Nd}{k:Nat}{v:BY}{T:List sE}{S:Ft}(h:RJ w wr e k v T S):∀u∈T.map (·.2.2),u.oneCell'=true:=by intro u I;simp only[mem_map]at I;obtain⟨t,J,rfl⟩:=I;have⟨a,b,Ja⟩:=(h.each t J).2.2.isI;rw[Ja];rfl
def RJ.segs{w wr:AT}{e:List Nd}{k:Nat}{v:BY}{T:List sE}{S:Ft}(h:RJ w wr e k v T S):∀s∈T.map (·.1),oneB s=true:=by intro s I;simp only[mem_map]at I;obtain⟨t,J,rfl⟩:=I;exact(h.each t J).1
def qp(S:Ft)(u:BY)(B:Nat):Prop:=S B\/u.ownBlock=some B
theorem RJ.kids{w wr w3:AT}{e:List Nd}{k:Nat}{v:BY}{T:List sE}{S:Ft}(h:RJ w wr e k v T S)(I A:Nat)(Jf:I+A=T.length)(hb:Bl wr w3){u:BY}(Z:ff wr.heap.size w3 u ((T.drop I).map (·.2.2))):
  gy w3 (qp S u) u A (vsJ (T.drop I))/\(∀i,i<A->Tv w3 (qp S u) (vsJ (T.drop I) i) (fsJ (T.drop I) i))/\∀B,qp S u B->B<w3.heap.size:=by
 have Jb:(T.drop I).length=A:=by simp;omega
 have Ja:∀i (J:i<A),(T.drop I).getD i ([],[],.nilIface)=(T.drop I)[i]'(by omega)/\(T.drop I)[i]'(by omega)∈T:=by intro i J;refine⟨by simp[List.getD,J4 (show i<(T.drop I).length by omega)],J6 (g_ _)⟩
 refine⟨?_,λi J=>?_,λB hB=>?_⟩;obtain⟨a,Jc,rfl,U,h2,h3,h4⟩:=Z.form;simp only[J8,Jb]at U⊢;refine⟨a,Jc,rfl,U,h2,λh0=>?_⟩;cases a with
 | none=>
  have:=h3 rfl
  have h5:=congrArg List.length this;simp only[J8,l_n]at h5;omega
 | some ad=>obtain⟨g,rfl,Jd,Je,hc⟩:=h4 ad rfl;refine⟨g,rfl,.inr rfl,λi J=>?_⟩;refine hc i _ ?_;rw[getElem?_map,J4 (show i<(T.drop I).length by omega),Option.map_some,vsJ,(Ja i J).1]
 ·have:=(h.each _ (Ja i J).2).2.2
  rw[vsJ,fsJ,(Ja i J).1];exact this.keep (λB hB=>.inl hB) (λB hB=>hb.block B (h.sep B hB).2.1)
 rcases hB with hB|hB;exact l_ (h.sep B hB).2.1 hb.size;exact(Z.own B hB).2
theorem RJ.step{w wr w3 w4 w5 w6:AT}{e:List Nd}{k:Nat}{v v' u U:BY}{T:List sE}{S:Ft}(h:RJ w wr e k v T S)(hk:k<e.length)(I A:Nat)(Jl:I+A=T.length)(hn:aJ e[k]=true)(hA:arity e[k]=A)
  (hb:Bl wr w3) (hu:ff wr.heap.size w3 u ((T.drop I).map (·.2.2))) (Jf:Bl w3 w4) (hT:Tv w4 (qp S u) U (joinF (fsJ (T.drop I)) A++[e[k]])) (Jg:Bl w4 w5)
  (hr:ff w.heap.size w6 v' ((T.take I).map (·.2.2)++[U])) (J:w5.grownBy w6 v.ownBlock) (hf:∀g,v'.ownBlock=some g->v.ownBlock=some g\/w5.heap.size<=g):
  ∃T' S',RJ w w6 e (k+1) v' T' S':=by
 have Jj:∀g,v.ownBlock=some g->w.heap.size<=g/\g<wr.heap.size:=λg J=>h.row.own g J;have Jc:Bl wr w5:=(hb.trans (Jf.mono hb.size)).trans (Jg.mono (t_ hb.size Jf.size));have Ja:∀B,qp S u B->B<w3.heap.size/\w.heap.size<=B/\v.ownBlock≠some B:=by intro B hB;rcases hB with hB|hB;exact⟨l_ (h.sep B hB).2.1 hb.size,(h.sep B hB).1,(h.sep B hB).2.2⟩;have Z:=hu.own B hB;have h2:=h.bel.size;refine⟨Z.2,o_,λhh=>?_⟩;have:=Jj B hh;omega
 have Jk:w3.heap.size<=w5.heap.size:=t_ Jf.size Jg.size;have Jb:∀B,qp S u B->w6.heap[B]? =w5.heap[B]? := λB hB=>J.block B (by have:=(Ja B hB).1;omega) (λhh=>(Ja B hB).2.2 hh.symm);refine⟨T.take I++[(((T.drop I).map (·.1)).flatten++[e[k]],joinF (fsJ (T.drop I)) A++[e[k]],U)],qp S u,?_,?_,?_,?_,?_⟩
 simp only[map_append,map_cons,map_nil,flatten_append,flatten_cons,flatten_nil,append_nil];rw[<-append_assoc,<-flatten_append,<-map_append,take_append_drop,h.flat,take_succ_eq_append_getElem hk]
 ·intro t ht;rw[J5]at ht;rcases ht with ht|ht
  ·have:=h.each t (mem_of_mem_take ht)
   refine⟨this.1,this.2.1,this.2.2.keep (λB hB=>.inl hB) (λB hB=>?_)⟩;rw[Jb B (.inl hB)];exact Jc.block B (h.sep B hB).2.1
  simp only[J7]at ht;subst ht;have Jd:∀s∈(T.drop I).map (·.1),oneB s=true:=by intro s hs;simp only[mem_map]at hs;obtain⟨t,ht,rfl⟩:=hs;exact(h.each t (J6 ht)).1
  have Je:((T.drop I).map (·.1)).length=A:=H6;refine⟨d9 _ _ hn (by rw[Je,hA]) Jd,?_,hT.keep (λ_ hB=>hB) (λB hB=>?_)⟩;have hj:∀m,m<=A->joinF (fsJ (T.drop I)) m=(((T.drop I).map (·.1)).take m).flatten:=by
   intro m;induction m with
   | zero=>intro _;rfl
   | succ m ih=>intro hm;have Ji:m<(T.drop I).length:=H6;rw[joinF,ih o_,take_succ_eq_append_getElem (IN Ji),flatten_append];simp only[getElem_map,flatten_cons,flatten_nil,append_nil];congr 1;rw[fsJ];simp only[List.getD,J4 Ji,Option.getD_some];exact(h.each _ (J6 (g_ _))).2.1
  rw[hj A n_,take_of_length_le (by rw[Je];exact n_)];rw[Jb B hB];exact Jg.block B (by have:=(Ja B hB).1;have:=Jf.size;omega)
 have e1:(T.take I++[(((T.drop I).map (·.1)).flatten++[e[k]],joinF (fsJ (T.drop I)) A++[e[k]],U)]).map (·.2.2)=(T.take I).map (·.2.2)++[U]:=i_;rw[e1];exact hr;intro B hB;have Z:=Ja B hB;refine⟨Z.2.1,Ka J.size,λhh=>?_⟩;rcases hf B hh with h2|h2;exact Z.2.2 h2;omega;have Jh:Bl w w5:=h.bel.trans (Jc.mono h.bel.size);exact Jh.grown J Jh.size (λg J=>(Jj g J).1)
theorem RJ.fin{w wr:AT}{e:List Nd}{v:BY}{T:List sE}{S:Ft}(h:RJ w wr e e.length v T S)(Z:oneB e=true):∃u g,(∃cap,v=rV g 1 cap)/\DO wr g 0 u/\Tv wr S u e:=by
 have I:T.map (·.1)=[e]:=tQ Z h.segs (by rw[h.flat,take_length]);have U:T.length=1:=by have:=congrArg List.length I;simpa using this
 obtain⟨t,rfl⟩:=length_eq_one_iff.1 U;simp only[map_cons,map_nil,List.cons.injEq,and_true]at I;have h2:=h.each t i_;rw[I]at h2;rw[h2.2.1]at h2;have⟨a,cap,J,_,_,h5,h6⟩:=h.row.form;cases a with
 | none=>have:=h5 rfl;simp at this
 | some ad=>obtain⟨g,rfl,_,_,h7⟩:=h6 ad rfl;exact⟨t.2.2,g,⟨cap,J⟩,h7 0 _ i_,h2.2.2⟩
def yQ(b:Bool)(w:AT):Calls prog 137 #[.bool b] w λe w'=>e=rW (V (boolN b))/\w'=w:=by
 cases b
 ·go_in;go_wp2;go_ret;exact⟨rfl,rfl⟩
 go_in;go_wp2;go_ret;exact⟨rfl,rfl⟩
def ET(I a:Int)(Z:0<=I)(h2:I<=2)(U:d7 a)(w:AT):
  Calls prog 95 #[.iface 205 (.agg #[V I,.iface 157 (.agg #[V a])])] w λe w'=>e=rW (.iface 157 (.agg #[V (rT I a)]))/\Bl w w':=by
 have J:=ah λW=>yP I a Z h2 U W;have a1:=dm;have a2:=bQ;go_in;go_wp2_with fail;refine(J.o _).mono ?_;rintro x w1 ⟨rfl,rfl⟩;go_wp2;go_ret;exact⟨rfl,(ao _ _).alloc i_ _⟩
def w_(I:Int)(u:JZ)(J:BY)(hu:u≠157)(w:AT):
  Calls prog 95 #[.iface 205 (.agg #[V I,.iface u J])] w λe w'=>e=rW (.iface 205 (.agg #[V I,.iface u J]))/\Bl w w':=by
 have n1:=df;have n2:=cX;have n3:=cL;have n4:=dK;have n5:=aS;have y1:=dm;have y2:=cY;have Z:=cZ;have U:=dC;have y5:=bQ;go_in;go_wp2;go_ret;exact⟨rfl,(ao _ _).alloc i_ _⟩
def Ao(I a b:Int)(U:JZ)(Z:BY)(w:AT):
  Calls prog 124 #[.agg #[V I,.iface U Z,.iface 157 (.agg #[V b])],.agg #[V a]] w λe w'=>e=rW (.iface 157 (.agg #[V (cJ I a b)]))/\Bl w w':=by
 have n1:=df;have n2:=cX;have n3:=cL;have n4:=dK;have n5:=aS;have y1:=dm;have y2:=cY;have y3:=cZ;have y4:=dC;have y5:=bQ;have J:=ah λW=>IG I a b W;go_in;go_wp2_with fail;refine(J.o _).mono ?_;rintro x w1 ⟨rfl,rfl⟩;go_wp2;go_ret;exact⟨rfl,((ao _ _).alloc i_ _).alloc H6 _⟩
def CD(I a:Int)(J u:JZ)(Z U:BY)(hu:u≠157)(w:AT):
  Calls prog 124 #[.agg #[V I,.iface J Z,.iface u U],.agg #[V a]] w λe w'=>e=rW (.iface 207 (.agg #[V I,.iface J Z,.iface u U]))/\Bl w w':=by
 have n1:=df;have n2:=cX;have n3:=cL;have n4:=dK;have n5:=aS;have y1:=dm;have y2:=cY;have y3:=cZ;have y4:=dC;have y5:=bQ;go_in;go_wp2;go_ret;exact⟨rfl,((ao _ _).alloc i_ _).alloc H6 _⟩
def jG(I a b:Int)(w:AT):
  Calls prog 95 #[.iface 207 (.agg #[V I,.iface 157 (.agg #[V a]),.iface 157 (.agg #[V b])])] w λe w'=>e=rW (.iface 157 (.agg #[V (cJ I a b)]))/\Bl w w':=by
 have n1:=df;have n2:=cX;have n3:=cL;have n4:=dK;have n5:=aS;have y1:=dm;have y2:=cY;have Z:=cZ;have U:=dC;have y5:=bQ;have J:Hid (∀W,Calls prog 124 #[.agg #[V I,.iface 157 (.agg #[V a]),.iface 157 (.agg #[V b])],.agg #[V a]] W λe w'=>e=rW (.iface 157 (.agg #[V (cJ I a b)]))/\Bl W w'):=λW=>Ao I a b _ _ W;go_in;go_wp2_with fail;refine(J.o _).mono ?_;rintro x w1 ⟨rfl,Ja⟩;go_wp2;go_ret;exact⟨rfl,((ao _ _).alloc i_ _).trans (Ja.mono H6)⟩
def uE(I a:Int)(u:JZ)(J:BY)(Z:u≠157)(w:AT):
  Calls prog 95 #[.iface 207 (.agg #[V I,.iface 157 (.agg #[V a]),.iface u J])] w λe w'=>e=rW (.iface 207 (.agg #[V I,.iface 157 (.agg #[V a]),.iface u J]))/\Bl w w':=by
 have n1:=df;have n2:=cX;have n3:=cL;have n4:=dK;have n5:=aS;have y1:=dm;have y2:=cY;have y3:=cZ;have y4:=dC;have y5:=bQ;have U:Hid (∀W,Calls prog 124 #[.agg #[V I,.iface 157 (.agg #[V a]),.iface u J],.agg #[V a]] W λe w'=>e=rW (.iface 207 (.agg #[V I,.iface 157 (.agg #[V a]),.iface u J]))/\Bl W w'):=λW=>CD I a _ u _ J Z W;go_in;go_wp2_with fail;refine(U.o _).mono ?_;rintro x w1 ⟨rfl,Ja⟩;go_wp2;go_ret;exact⟨rfl,((ao _ _).alloc i_ _).trans (Ja.mono H6)⟩
def kA(I:Int)(u U:JZ)(Z J:BY)(hu:u≠157)(w:AT):
  Calls prog 95 #[.iface 207 (.agg #[V I,.iface u Z,.iface U J])] w λe w'=>e=rW (.iface 207 (.agg #[V I,.iface u Z,.iface U J]))/\Bl w w':=by
 have n1:=df;have n2:=cX;have n3:=cL;have n4:=dK;have n5:=aS;have y1:=dm;have y2:=cY;have y3:=cZ;have y4:=dC;have y5:=bQ;go_in;go_wp2;go_ret;exact⟨rfl,(ao _ _).alloc i_ _⟩
def xe(u J:JZ)(U I:BY)(hu:u≠157)(w:AT):
  Calls prog 95 #[.iface 209 (.agg #[.iface u U,.iface J I])] w λe w'=>e=rW (.iface 209 (.agg #[.iface u U,.iface J I]))/\Bl w w':=by
 have n1:=df;have n2:=cX;have n3:=cL;have n4:=dK;have n5:=aS;have y1:=dm;have y2:=cY;have y3:=cZ;have Z:=dC;have y5:=bQ;go_in;go_wp2;go_ret;exact⟨rfl,(ao _ _).alloc i_ _⟩
def Aq(u J:JZ)(U I:BY)(hu:u≠157)(w:AT):
  Calls prog 95 #[.iface 210 (.agg #[.iface u U,.iface J I])] w λe w'=>e=rW (.iface 210 (.agg #[.iface u U,.iface J I]))/\Bl w w':=by
 have n1:=df;have n2:=cX;have n3:=cL;have n4:=dK;have n5:=aS;have y1:=dm;have y2:=cY;have y3:=cZ;have Z:=dC;have y5:=bQ;go_in;go_wp2;go_ret;exact⟨rfl,(ao _ _).alloc i_ _⟩
def iL(u:JZ)(I:BY)(J:u≠205)(h2:u≠207)(h3:u≠209)(h4:u≠210)(w:AT):
  Calls prog 95 #[.iface u I] w λe w'=>e=rW (.iface u I)/\Bl w w':=by
 have U:=λW=>df W u I J;have n2:=λW=>cX W u I h2;have Z:=λW=>cL W u I h3;have n4:=λW=>dK W u I h4;go_in;go_wp2;go_ret;exact⟨rfl,r_⟩
section
variable{w:AT}{S:Ft}{x y:BY}{r t:List Nd}
def sF(x:Int)(U:JZ)(J:BY)(h:x=0)(w:AT):
  Calls prog 125 #[.agg #[V x],.iface U J,.bool true] w λe w'=>e=rW (.iface 157 (.agg #[V 0]))/\Bl w w':=by
 subst h;have I:=ah λW=>yQ false W;go_in;go_wp2_with fail;refine(I.o _).mono ?_;rintro x w1 ⟨rfl,rfl⟩;go_wp2;go_ret;exact⟨rfl,r_.alloc n_ _⟩
def sG(x y:Int)(J:d7 y)(h:x≠0)(w:AT):
  Calls prog 125 #[.agg #[V x],.iface 157 (.agg #[V y]),.bool true] w λe w'=>e=rW (.iface 157 (.agg #[V (boolN (decide (y≠0)))]))/\Bl w w':=by
 have U:(x != 0)=true:=by simp[h]
 have I:Hid (∀W,Calls prog 95 #[.iface 207 (.agg #[V 12,.iface 157 (.agg #[V y]),.iface 157 (.agg #[V 0])])] W λe w'=>e=rW (.iface 157 (.agg #[V (boolN (decide (y≠0)))]))/\Bl W w'):=λW=>by
  have:=jG 12 y 0 W
  rw[B_ y J]at this;have e:(if y=0 then(0:Int)else 1)=boolN (decide (y≠0)):=by by_cases h:y=0 <;> simp[boolN,h]
  rw[e]at this;exact this
 generalize boolN (decide (y≠0))=bz at I⊢;go_in;go_wp2_with fail;refine(I.o _).mono ?_;rintro x w1 ⟨rfl,Ja⟩;go_wp2;go_ret;exact⟨rfl,(ao _ _).trans (Ja.mono i_)⟩
def sH(x:Int)(u:JZ)(I:BY)(U:u≠157)(h:x≠0)(w:AT):
  Calls prog 125 #[.agg #[V x],.iface u I,.bool true] w λe w'=>e=rW (.iface 207 (.agg #[V 12,.iface u I,.iface 157 (.agg #[V 0])]))/\Bl w w':=by
 have Z:(x != 0)=true:=by simp[h]
 have J:Hid (∀W,Calls prog 95 #[.iface 207 (.agg #[V 12,.iface u I,.iface 157 (.agg #[V 0])])] W λe w'=>e=rW (.iface 207 (.agg #[V 12,.iface u I,.iface 157 (.agg #[V 0])]))/\Bl W w'):=λW=>kA 12 u _ I _ U W;go_in;go_wp2_with fail;refine(J.o _).mono ?_;rintro x w1 ⟨rfl,Ja⟩;go_wp2;go_ret;exact⟨rfl,(ao _ _).trans (Ja.mono i_)⟩
def kB(x:Int)(J:JZ)(I:BY)(Z:BY)(w:AT)(hC:∀W,Calls prog 125 #[.agg #[V x],.iface J I,.bool true] W λe w'=>e=rW Z/\Bl W w'):
  Calls prog 95 #[.iface 209 (.agg #[.iface 157 (.agg #[V x]),.iface J I])] w λe w'=>e=rW Z/\Bl w w':=by
 have n1:=df;have n2:=cX;have n3:=cL;have n4:=dK;have n5:=aS;have y1:=dm;have y2:=cY;have y3:=cZ;have y4:=dC;have y5:=bQ;have U:=ah hC;go_in;go_wp2_with fail;refine(U.o _).mono ?_;rintro x w1 ⟨rfl,Ja⟩;go_wp2;go_ret;exact⟨rfl,((ao _ _).alloc i_ _).trans (Ja.mono H6)⟩
def uF(x:Int)(U:JZ)(J:BY)(h:x≠0)(w:AT):
  Calls prog 125 #[.agg #[V x],.iface U J,.bool false] w λe w'=>e=rW (.iface 157 (.agg #[V 1]))/\Bl w w':=by
 have Z:(x != 0)=true:=by simp[h]
 have I:=ah λW=>yQ true W;go_in;go_wp2_with fail;refine(I.o _).mono ?_;rintro x w1 ⟨rfl,rfl⟩;go_wp2;go_ret;exact⟨rfl,r_.alloc n_ _⟩
def uG(x y:Int)(J:d7 y)(h:x=0)(w:AT):
  Calls prog 125 #[.agg #[V x],.iface 157 (.agg #[V y]),.bool false] w λe w'=>e=rW (.iface 157 (.agg #[V (boolN (decide (y≠0)))]))/\Bl w w':=by
 subst h;have I:Hid (∀W,Calls prog 95 #[.iface 207 (.agg #[V 12,.iface 157 (.agg #[V y]),.iface 157 (.agg #[V 0])])] W λe w'=>e=rW (.iface 157 (.agg #[V (boolN (decide (y≠0)))]))/\Bl W w'):=λW=>by
  have:=jG 12 y 0 W
  rw[B_ y J]at this;have e:(if y=0 then(0:Int)else 1)=boolN (decide (y≠0)):=by by_cases h:y=0 <;> simp[boolN,h]
  rw[e]at this;exact this
 generalize boolN (decide (y≠0))=bz at I⊢;go_in;go_wp2_with fail;refine(I.o _).mono ?_;rintro x w1 ⟨rfl,Ja⟩;go_wp2;go_ret;exact⟨rfl,(ao _ _).trans (Ja.mono i_)⟩
def uH(x:Int)(u:JZ)(I:BY)(U:u≠157)(h:x=0)(w:AT):
  Calls prog 125 #[.agg #[V x],.iface u I,.bool false] w λe w'=>e=rW (.iface 207 (.agg #[V 12,.iface u I,.iface 157 (.agg #[V 0])]))/\Bl w w':=by
 subst h;have J:Hid (∀W,Calls prog 95 #[.iface 207 (.agg #[V 12,.iface u I,.iface 157 (.agg #[V 0])])] W λe w'=>e=rW (.iface 207 (.agg #[V 12,.iface u I,.iface 157 (.agg #[V 0])]))/\Bl W w'):=λW=>kA 12 u _ I _ U W;go_in;go_wp2_with fail;refine(J.o _).mono ?_;rintro x w1 ⟨rfl,Ja⟩;go_wp2;go_ret;exact⟨rfl,(ao _ _).trans (Ja.mono i_)⟩
def lS(x:Int)(J:JZ)(I:BY)(Z:BY)(w:AT)(hC:∀W,Calls prog 125 #[.agg #[V x],.iface J I,.bool false] W λe w'=>e=rW Z/\Bl W w'):
  Calls prog 95 #[.iface 210 (.agg #[.iface 157 (.agg #[V x]),.iface J I])] w λe w'=>e=rW Z/\Bl w w':=by
 have n1:=df;have n2:=cX;have n3:=cL;have n4:=dK;have n5:=aS;have y1:=dm;have y2:=cY;have y3:=cZ;have y4:=dC;have y5:=bQ;have U:=ah hC;go_in;go_wp2_with fail;refine(U.o _).mono ?_;rintro x w1 ⟨rfl,Ja⟩;go_wp2;go_ret;exact⟨rfl,((ao _ _).alloc i_ _).trans (Ja.mono H6)⟩
theorem IU(h:Int)(h0:0<=h)(h2:h<=2)(J:Tv w S x r)(I:∀a,dY r=some a->d7 a)(hS:∀B,S B->B<w.heap.size):
  Calls prog 95 #[.iface 205 (.agg #[V h,x])] w λe w'=>∃u,e=rW u/\Tv w' S u (match dY r with|some a=>dL (rT h a)|none=>r++[⟨6,h,⟨#[]⟩⟩])/\Bl w w':=by
 cases hr:dY r with
 | some a=>obtain rfl:=J.some hr;refine(ET h a h0 h2 (I a hr) w).mono ?_;rintro e w' ⟨rfl,I⟩;exact⟨_,rfl,.num _,I⟩
 | none=>obtain⟨t,Z,rfl,U⟩:=J.none hr;refine(w_ h t Z U w).mono ?_;rintro e w' ⟨rfl,I⟩;exact⟨_,rfl,.un _ _ _ (J.bel hS I),I⟩
theorem G_(I:Int)(U:Tv w S x r)(J:Tv w S y t)(Z:∀B,S B->B<w.heap.size):
  Calls prog 95 #[.iface 207 (.agg #[V I,x,y])] w λe w'=>∃u,e=rW u/\Tv w' S u (match dY r,dY t with|some a,some b=>dL (cJ I a b)|_,_=>r++t++[⟨7,I,⟨#[]⟩⟩])/\Bl w w':=by
 cases hr:dY r with
 | some a=>
  obtain rfl:=U.some hr;cases ht:dY t with
  | some b=>obtain rfl:=J.some ht;refine(jG I a b w).mono ?_;rintro e w' ⟨rfl,h⟩;exact⟨_,rfl,.num _,h⟩
  | none=>obtain⟨u,yv,rfl,hu⟩:=J.none ht;refine(uE I a u yv hu w).mono ?_;rintro e w' ⟨rfl,h⟩;exact⟨_,rfl,.bin _ _ _ _ _ (U.bel Z h) (J.bel Z h),h⟩
 | none=>obtain⟨u,xv,rfl,hu⟩:=U.none hr;obtain⟨ty,yv,rfl⟩:=J.isI;refine(kA I u ty xv yv hu w).mono ?_;rintro e w' ⟨rfl,h⟩;exact⟨_,rfl,.bin _ _ _ _ _ (U.bel Z h) (J.bel Z h),h⟩
def mE{y:Int}(h:dY t=some y):di t=dL (boolN (decide (y≠0))):=by simp[di,h]
def mF(h:dY t=none):di t=t++[⟨1,0,⟨#[]⟩⟩]++[⟨7,12,⟨#[]⟩⟩]:=by simp[di,h]
theorem G0(Z:Tv w S x r)(J:Tv w S y t)(h:∀a,dY t=some a->d7 a)(hS:∀B,S B->B<w.heap.size):
  Calls prog 95 #[.iface 209 (.agg #[x,y])] w λe w'=>∃u,e=rW u/\Tv w' S u (match dY r with|some x=>if x=0 then dL 0 else di t|none=>r++t++[⟨8,0,⟨#[]⟩⟩])/\Bl w w':=by
 cases hr:dY r with
 | some x=>
  obtain rfl:=Z.some hr;by_cases h0:x=0;obtain⟨ty,I,rfl⟩:=J.isI;refine(kB x ty I _ w (λW=>sF x ty I h0 W)).mono ?_;rintro e w' ⟨rfl,h⟩;refine⟨_,rfl,?_,h⟩;simp only[h0,if_true,if_false];exact .num _;cases ht:dY t with
  | some y=>obtain rfl:=J.some ht;refine(kB x _ _ _ w (λW=>sG x y (h y ht) h0 W)).mono ?_;rintro e w' ⟨rfl,h⟩;refine⟨_,rfl,?_,h⟩;simp only[h0,if_true,if_false,mE ht];exact .num _
  | none=>obtain⟨u,I,rfl,U⟩:=J.none ht;refine(kB x _ _ _ w (λW=>sH x u I U h0 W)).mono ?_;rintro e w' ⟨rfl,h⟩;refine⟨_,rfl,?_,h⟩;simp only[h0,if_true,if_false,mF ht];exact .bin _ _ _ _ _ (J.bel hS h) (.num _)
 | none=>obtain⟨u,xv,rfl,U⟩:=Z.none hr;obtain⟨ty,I,rfl⟩:=J.isI;refine(xe u ty xv I U w).mono ?_;rintro e w' ⟨rfl,h⟩;exact⟨_,rfl,.and _ _ _ _ (Z.bel hS h) (J.bel hS h),h⟩
theorem IV(Z:Tv w S x r)(J:Tv w S y t)(h:∀a,dY t=some a->d7 a)(hS:∀B,S B->B<w.heap.size):
  Calls prog 95 #[.iface 210 (.agg #[x,y])] w λe w'=>∃u,e=rW u/\Tv w' S u (match dY r with|some x=>if x=0 then di t else dL 1|none=>r++t++[⟨9,0,⟨#[]⟩⟩])/\Bl w w':=by
 cases hr:dY r with
 | some x=>
  obtain rfl:=Z.some hr;by_cases h0:x=0;cases ht:dY t with
  | some y=>obtain rfl:=J.some ht;refine(lS x _ _ _ w (λW=>uG x y (h y ht) h0 W)).mono ?_;rintro e w' ⟨rfl,h⟩;refine⟨_,rfl,?_,h⟩;simp only[h0,if_true,if_false,mE ht];exact .num _
  | none=>obtain⟨u,I,rfl,U⟩:=J.none ht;refine(lS x _ _ _ w (λW=>uH x u I U h0 W)).mono ?_;rintro e w' ⟨rfl,h⟩;refine⟨_,rfl,?_,h⟩;simp only[h0,if_true,if_false,mF ht];exact .bin _ _ _ _ _ (J.bel hS h) (.num _)
  obtain⟨ty,I,rfl⟩:=J.isI;refine(lS x ty I _ w (λW=>uF x ty I h0 W)).mono ?_;rintro e w' ⟨rfl,h⟩;refine⟨_,rfl,?_,h⟩;simp only[h0,if_true,if_false];exact .num _
 | none=>obtain⟨u,xv,rfl,U⟩:=Z.none hr;obtain⟨ty,I,rfl⟩:=J.isI;refine(Aq u ty xv I U w).mono ?_;rintro e w' ⟨rfl,h⟩;exact⟨_,rfl,.or _ _ _ _ (Z.bel hS h) (J.bel hS h),h⟩
end
