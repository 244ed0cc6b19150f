import Derived.Test.YtffnkkpmlplfeaaGreatDoorF53
import Derived.Deep.RegionLaw
import Derived.Test.YtffnkkpmlplfeaaGreatDoorF07
import Derived.Test.YtffnkkpmlplfeaaGreatDoorF24
namespace Go.Proofs.YtffnkkpmlplfeaaGreatDoor
open Go.World List
open Go.Proofs.Tryz Go.RowKit
set_option linter.all false
set_option maxRecDepth 100000
set_option maxHeartbeats 0
variable[Inhabited Pick]
section
variable{C:IC}{vO vI:BY}{w W:AT}{vV:Option Nat}{s:ES}{b nn k:Nat}{D:DataW BY}{gs:List Gl}{gb:List Nat}{x:GA}{t:Tr}
def cL.P:cL C vO C.P:=.inl rfl
def pP(h:IS C w vV vI vO s)(J:s.u=0):
  Calls prog 143 #[pV C.P] w λe w'=>e=rW (.bool false)/\w'=w:=by
 have I:=(h.box 8 _ rfl).1;rw[J]at I;go_in;go_wp2;go_ret;exact⟨rfl,rfl⟩
def dY(J:C.Ok)(h:IS C w vV vI vO s)(hu:0<s.u):
  Calls prog 143 #[pV C.P] w λe w'=>e=rW (.bool true)/\IS C w' vV vI vO s.sp/\ak (cL C vO) w w':=by
 have p8:=(h.box 8 _ rfl).1;have U:=(h.box 8 _ rfl).2;have Y:((s.u:Int) == 0)=false:=by simp;omega
 have Z:=h.uu.1;have I:=h.nn;have H:Hid (IS C (w.setCell ⟨C.P,8,none⟩ (V ((s.u:Int)-1))) vV vI vO s.sp):=by
  have e:((s.sp.u:Nat):Int)=(s.u:Int)-1:=by simp only[ES.sp];omega
  rw[<-e];exact h.boxed J 8 _ rfl rfl rfl rfl h.inp ⟨h.ok.g,h.ok.l,h.ok.i⟩ (by simp only[ES.sp];omega) ⟨I.1,by simp only[ES.sp];omega,I.2.2.1,I.2.2.2⟩
 go_in;go_wp2;go_ret;exact⟨rfl,H,(ak.refl (cL C vO) w).setCell (p:=⟨C.P,8,none⟩) cL.P _⟩
def rh(Jb:W.ownsMap prog 9 fC b nn D)(Y:ge D gs gb)(hs:x.size<=maxLen)(Z:k<gs.length)(h:gV gs x=some k):
  (Instr.lookup 79 (.map (some b)) (sV x) true).run prog W=.ok (.tuple #[.slice (some ⟨gb.getD k 0,0,none⟩) (dV gs[k]) (dV gs[k]),.bool true]) W:=by
 obtain⟨v,ps,U,I⟩:=Jb.look_ok (Maps.string_keyed underlying9) underlying79 (zeroValue26 _) (show fC (.slice none 0 0)=some (.held (.slice none 0 0),[])from rfl) (WideMaps.keyOf_string_mk underlying9 hs);rw[Y.val x k Z h]at I;simp only[fC,GD,Prod.mk.injEq,DataW.held.injEq]at I;have J:=Y.has x;rw[h]at J;rw[J,I.1]at U;exact U
def oC(Z:W.ownsMap prog 9 fC b nn D)(hG:ge D gs gb)(Y:x.size<=maxLen)(h:gV gs x=none):
  (Instr.lookup 79 (.map (some b)) (sV x) true).run prog W=.ok (.tuple #[nV,.bool false]) W:=by
 obtain⟨v,ps,U,I⟩:=Z.look_ok (Maps.string_keyed underlying9) underlying79 (zeroValue26 _) (show fC (.slice none 0 0)=some (.held (.slice none 0 0),[])from rfl) (WideMaps.keyOf_string_mk underlying9 Y);have J:=hG.has x;rw[h]at J;rw[Maps.atKey_of_not_has J]at I;simp only[fC,GD,Prod.mk.injEq,DataW.held.injEq]at I;rw[J,I.1]at U;exact U
def oD(Y:W.ownsMap prog 9 fC b nn D)(hG:ge D gs gb)(Z:x.size<=maxLen)(U:k<gs.length)(h:gV gs x=some k):
  (Instr.lookup 79 (.map (some b)) (sV x) false).run prog W=.ok (.slice (some ⟨gb.getD k 0,0,none⟩) (dV gs[k]) (dV gs[k])) W:=by
 obtain⟨v,ps,J,I⟩:=Y.lookup (Maps.string_keyed underlying9) underlying79 (zeroValue26 _) (show fC (.slice none 0 0)=some (.held (.slice none 0 0),[])from rfl) (WideMaps.keyOf_string_mk underlying9 Z);rw[hG.val x k U h]at I;simp only[fC,GD,Prod.mk.injEq,DataW.held.injEq]at I;rw[I.1]at J;exact J
def Ai{D:DataW Unit}{l:List (GA×Int)}(U:W.ownsMap prog 9 (plainElem (H:=Unit) prog 2) b nn D)(Z:fE D l){v:Int}(Y:x.size<=maxLen)(h:(x,v)∈l):
  (Instr.lookup 77 (.map (some b)) (sV x) false).run prog W=.ok (V v) W:=by
 obtain⟨c,J,I,_⟩:=U.lookup_int (Maps.string_keyed underlying9) underlying77 underlying2 (zeroValue2 _) (WideMaps.keyOf_string_mk underlying9 Y);rw[(Z.val x v h).2]at I;simp only[DataW.lit.injEq,Lit.int.injEq,true_and]at I;subst I;exact J
def bK{H:Type}{P:Program}{k:GC}{R:BY->Option (DataW H×List MemPlace)}{w':AT}{n:Nat}{D:DataW H}{S:D6}(h:w.ownsMap P k R b n D)(ht:ak S w w')(hn:¬S b):w'.ownsMap P k R b n D:=by
 have U:=h.lt;obtain⟨J,I,Y,F,Z,hD⟩:=h;exact⟨J,I,(ht.block b U hn).trans Y,F,Z,hD⟩
def IS.glb(I:C.Ok)(h:IS C w vV vI vO s):∃n D,w.ownsMap prog 9 fC C.bM n D/\ge D C.t.globals C.gb:=by
 obtain⟨n,D,J,h2⟩:=I.glb;have:=I.ne C.bM (.inr (.inl rfl));exact⟨n,D,bK J h.tc (λe=>e.elim this.2.1 this.2.2),h2⟩
def IS.num(I:C.Ok)(h:IS C w vV vI vO s):∃n D,w.ownsMap prog 9 (plainElem (H:=Unit) prog 2) C.bN n D/\cR D C.t.funcs:=by
 obtain⟨n,D,J,h2⟩:=I.num;have:=I.ne C.bN (.inl rfl);exact⟨n,D,bK J h.tc (λe=>e.elim this.2.1 this.2.2),h2⟩
theorem pQ:∀ {gs:List Gl} {x:GA},(∀g∈gs,0<=g.size)->globI gs x<0->gV gs x=none
 | [],_,_,_=>rfl
 | g::r,x,hg,h=>by
  unfold globI at h;by_cases e:g.name=x
  ·rw[if_pos e]at h;have:=hg g i_
   omega
  ·rw[if_neg e]at h;have:=pQ (λy hy=>hg y (by simp[hy])) h
   unfold gV at this⊢;rw[findIdx?_cons];simp[e,this]
def lj(h:(aU t).1=0):∀g∈t.globals,0<=g.size:=λg hg=>by
 obtain⟨h1,-,-⟩:=dH h;simp only[df,GE,GF,all_eq_true]at h1;have:=h1.2.2.1 g hg;simp only[cY,GE,GF]at this;exact this.2.1
def uA(hC:C.Ok){sc:List GA}(h:jd C.t sc)(hx:x∈sc):gV C.t.globals x=none:=pQ (lj hC.snd) (h.2 x hx)
def DI(J:x∈s.l.map Prod.fst):∃v,(x,v)∈s.l/\s.rd t x=v:=by
 obtain⟨j,h,I,h2⟩:=kV.1 J;refine⟨(s.l[j]).2,?_,?_⟩
 ·have:=g_ h
  rw[<-h2];exact this
 ·unfold ES.rd;rw[I];simp[List.getD,h]
def IS.word(Y:C.Ok)(h:IS C w vV vI vO s)(U:k<C.t.globals.length):∃b,C.gb.getD k 0=b/\b∈C.gb/\(s.g.getD k []).length=dV C.t.globals[k]/\aK w b ((s.g.getD k []).map (Value.int .i64)):=by
 have I:k<C.gb.length:=by rw[Y.gbl];exact U
 have J:k<s.g.length:=by rw[h.gl];exact I
 refine⟨C.gb[k],by simp[List.getD,I],g_ I,?_,h.gw k I⟩;have:=h.g1 k J U;simpa[List.getD,J]using this
def uB(g:Gl)(h:0<=g.size):1<=dV g:=by unfold dV;split <;> omega
def BM(U:C.Ok)(h:IS C w vV vI vO s)(Jc:jd C.t (s.l.map Prod.fst))(hz:x.size<=maxLen)(I:x∈s.l.map Prod.fst∨(x∉s.l.map Prod.fst/\globI C.t.globals x=0)):
  Calls prog 217 #[pV C.P,sV x] w λe w'=>e=rW (V (s.rd C.t x))/\w'=w:=by
 have p4:=(h.box 4 _ rfl).1;have p5:=(h.box 5 _ rfl).1;obtain⟨n,D,Ja,hG⟩:=h.glb U;rcases I with I|⟨I,hg⟩
 ·have hl:=oC Ja hG hz (uA U Jc I);obtain⟨v,hv,Z⟩:=DI (t:=C.t) I;obtain⟨b,rfl,Jf⟩:∃b,vV=some b/\(Instr.lookup 77 (.map (some b)) (sV x) false).run prog w=.ok (V v) w:=by
   rcases h.var with⟨-,e⟩|⟨b,n,D,rfl,J,h2,-⟩
   ·rw[e]at hv;cases hv
   ·exact⟨b,rfl,Ai J h2 hz hv⟩
  rw[Z];go_in;go_wp2;go_ret;exact⟨rfl,rfl⟩
 ·obtain⟨k,Y,J,h2⟩:=eK (gs:=C.t.globals) (x:=x) o_;have hl:=rh Ja hG hz Y J;obtain⟨b,hb,Je,Jb,hf⟩:=h.word U Y;have Jg:=uB C.t.globals[k] (lj U.snd _ (g_ Y));have Z:s.rd C.t x=(s.g.getD k []).getD 0 0:=by
   unfold ES.rd;rw[iA I,J]
  have Jd:=(hf 0 (V ((s.g.getD k []).getD 0 0)) (by
   generalize s.g.getD k []=ws at Jb⊢;rw[getElem?_map,GH o_];simp[List.getD,show 0<ws.length by omega])).1
  rw[Z];rw[hb]at hl;generalize dV C.t.globals[k]=N at*;generalize (s.g.getD k []).getD 0 0=v0 at*;have Jh:(0:Int)<(N:Int):=o_;go_in;go_wp2;go_ret;exact⟨rfl,rfl⟩
end
section
variable{C:IC}{w:AT}{vV:Option Nat}{vI vO:BY}{s:ES}{x:GA}{k j:Nat}{v:Int}{l':List (GA×Int)}
def uC(Z:C.Ok)(h:IS C w vV vI vO s)(hz:x.size<=maxLen)(Y:k<C.t.globals.length)(h1:gV C.t.globals x=some k)(hv:0<=v/\v<dV C.t.globals[k]):
  Calls prog 146 #[pV C.P,sV x,V v] w λe w'=>e=rW (.pointer (some ⟨C.gb.getD k 0,v.toNat,none⟩))/\w'=w:=by
 have p4:=(h.box 4 _ rfl).1;obtain⟨n,D,J,U⟩:=h.glb Z;have hl:=oD J U hz Y h1;generalize dV C.t.globals[k]=N at*;generalize C.gb.getD k 0=b at*;obtain⟨j,rfl⟩:∃j:Nat,v=(j:Int):=⟨v.toNat,o_⟩;have I:((j:Int)).toNat=j:=i_;rw[I];have Jb:¬(j:Int)<0:=o_;have Jc:¬(N:Int)<=(j:Int):=o_;go_in;go_wp2;go_ret;exact⟨rfl,rfl⟩
def rj(Y:C.Ok)(h:IS C w vV vI vO s)(hz:x.size<=maxLen)(U:k<C.t.globals.length)(Z:gV C.t.globals x=some k)(hv:¬(0<=v/\v<dV C.t.globals[k])):
  Calls prog 146 #[pV C.P,sV x,V v] w λe w'=>e=rW (.pointer none)/\w'=w:=by
 have p4:=(h.box 4 _ rfl).1;obtain⟨n,D,I,J⟩:=h.glb Y;have hl:=oD I J hz U Z;generalize dV C.t.globals[k]=N at*;generalize C.gb.getD k 0=b at*;by_cases hn1:v<0
 ·go_in;go_wp2;go_ret;exact⟨rfl,rfl⟩
 ·have Jb:(N:Int)<=v:=o_
  go_in;go_wp2;go_ret;exact⟨rfl,rfl⟩
def Aj(U:C.Ok)(h:IS C w vV vI vO s)(J:s.i=[]):
  Calls prog 218 #[pV C.P] w λe w'=>e=rW (V 0)/\w'=w:=by
 obtain⟨a,c,rfl,-⟩:=h.inp;have I:=(h.box 6 _ rfl).1;rw[J]at I;simp only[l_n]at I;go_in;go_wp2;go_ret;exact⟨rfl,rfl⟩
def wS(hC:C.Ok)(h:IS C w vV vI vO s){q:Int}{I:List Int}(hi:s.i=q::I):
  Calls prog 218 #[pV C.P] w λe w'=>∃vI',e=rW (V q)/\IS C w' vV vI' vO {s with i:=I}/\ak (cL C vO) w w':=by
 have Ji:Bl C.wa w:=h.tc.below hC.bel hC.bel.size (λk hk=>by
  obtain⟨-,-,h3,-,h5⟩:=hC.pg;rcases hk with e|e
  ·omega
  ·exact(h5 k e).1)
 have Jj:=h.inp;rw[hi]at Jj;obtain⟨U,J,rfl,Jg,Jn,Je⟩:=Jj;have Jf:=fW.tail (w0:=C.wa) (a:=U) (c:=J) (x:=q) (r:=I) ⟨U,J,rfl,Jg,Jn,Je⟩;obtain⟨bI,oI,Jm,Jh⟩:=Je i_;have Jp:DO w bI oI (V q):=by
  have h0:=Jh 0 i_;simp only[Nat.add_zero,getElem_cons_zero]at h0;exact(Ji.cell (p:=⟨bI,oI,none⟩) (b_ h0)).trans h0
 have Z:=qK U (q::I).length J i_ Jg;obtain⟨Ta,Jk⟩:=q_ ((if J=1 then U else U.map (·.add (1*1))));rw[<-Jk]at Z Jf;have p6:=(h.box 6 _ rfl).1;have f6:=(h.box 6 _ rfl).2;have H:Hid (IS C (w.setCell ⟨C.P,6,none⟩ (.slice Ta I.length (J-1))) vV (.slice Ta I.length (J-1)) vO {s with i:=I}):=h.boxed hC 6 _ rfl rfl rfl rfl Jf ⟨h.ok.g,h.ok.l,λx hx=>h.ok.i x (by rw[hi];exact m_ _ hx)⟩ n_ h.nn;obtain⟨il,Y⟩:=q_ ((q::I).length);have Jl:0<il:=by rw[Y];simp
 have Jc:il-1=I.length:=by rw[Y];simp
 have Jo:((il:Int) == 0)=false:=by simp;omega
 rw[<-Y]at Z p6;rw[Jc]at Z;generalize I.length=rl at Z H;subst Jm;clear h Ji Jf Jh Je Jg Y Jc Jk;go_in;go_wp2;go_ret;exact⟨_,rfl,H,(ak.refl _ _).setCell (p:=⟨C.P,6,none⟩) cL.P _⟩
def fE.put{D:DataW Unit}{l:List (GA×Int)}(h:fE D l)(U:∀y u,(y,u)∈l'->(y=x/\u=v)∨(y≠x/\(y,u)∈l)):fE (D.put (kS x) (.lit (.int .i64 v))) l':=by
 refine⟨h.map.put _ _,λy u hy=>?_⟩;rcases U y u hy with⟨rfl,rfl⟩|⟨I,J⟩
 ·exact⟨Maps.has_put_same (k:=kS y) h.map trivial _,Maps.atKey_put_same (k:=kS y) h.map trivial ..⟩
 ·rw[Maps.has_put_other (ky I),Maps.atKey_put_other (ky I)];exact h.val y u J
def wT{l:List Nat}(h:l.Nodup){i:Nat}(U:i<l.length)(J:j<l.length)(e:l[i]=l[j]):i=j:=by
 have I:=pairwise_iff_getElem.1 h;rcases Nat.lt_trichotomy i j with hl|hl|hl
 ·exact absurd e (I i j U J hl)
 ·exact hl
 ·exact absurd e.symm (I j i J U hl)
theorem IS.vars(Z:C.Ok){w':World}{b:Nat}(h:IS C w (some b) vI vO s){n:Nat}{U:DataW Unit}(I:ak (λk=>k=b) w w')(ho:w'.ownsMap prog 9 (plainElem (H:=Unit) prog 2) b n U)(hv:fE U l')(hn:n+s.u<=100010)(hl:∀y∈l',et y.2):IS C w' (some b) vI vO {s with l:=l'}:=by
 obtain⟨p1,p2,p3⟩:=h.hi Z;obtain⟨-,-,-,q4,q5⟩:=Z.pg;obtain⟨hb,Y⟩:C.w0.heap.size<=b/\vO.ownBlock≠some b:=by
  rcases h.var with⟨e,-⟩|⟨b',n,D,e,-,-,-,h4,h5⟩
  ·cases e
  ·cases e;exact⟨h4,h5⟩
 refine⟨h.tc.next I (λk hk=>.inr (by have e:k=b:=hk;omega)),h.box.tcs p1 I (λe=>by have J:C.P=b:=e;omega),h.gl,λk hk=>(h.gw k hk).tcs (p2 _ (g_ hk)).1 I (λe=>by have J:C.gb[k]=b:=e;have:=(q5 _ (g_ hk)).2;omega),h.g1,.inr ⟨b,n,U,rfl,ho,hv,hn,hb,Y⟩,h.inp,aO h.out I (λk hk e=>by have J:k=b:=e;subst J;exact Y hk),⟨h.ok.g,hl,h.ok.i⟩,h.uu,h.nn⟩
theorem IS.gset(hC:C.Ok)(h:IS C w vV vI vO s)(hk:k<C.t.globals.length)(hj:j<dV C.t.globals[k])(hv:et v):IS C (w.setCell ⟨C.gb.getD k 0,j,none⟩ (V v)) vV vI vO {s with g:=s.g.set k ((s.g.getD k []).set j v)}:=by
 obtain⟨p1,p2,p3⟩:=h.hi hC;obtain⟨q1,q2,q3,q4,q5⟩:=hC.pg;have J:k<C.gb.length:=by rw[hC.gbl];exact hk
 have U:k<s.g.length:=by rw[h.gl];exact J
 have e1:C.gb.getD k 0=C.gb[k]:=by simp[List.getD,J]
 have e2:s.g.getD k []=s.g[k]:=by simp[List.getD,U]
 rw[e1,e2];have Y:=g_ J;have I:ak (λq=>q=C.gb[k]) w (w.setCell ⟨C.gb[k],j,none⟩ (V v)):=(ak.refl (λq=>q=C.gb[k]) w).setCell (p:=⟨C.gb[k],j,none⟩) rfl _;refine⟨h.tc.trans (I.mono λq hq=>.inr (by have e:q=C.gb[k]:=hq;rw[e];exact Y)),h.box.tcs p1 I (λe=>(p2 _ Y).2 e.symm),by simp[h.gl],λi hi=>?_,λi hi hi'=>?_,?_,h.inp,aO h.out I (λq hq e=>by have Z:q=C.gb[k]:=e;have:=(World.ownsRow.lt h.out q hq).1;have:=(q5 _ Y).2;omega),⟨oU h.ok.g k (rT (λx hx=>h.ok.g _ (g_ U) x hx) j hv),h.ok.l,h.ok.i⟩,h.uu,h.nn⟩
 ·by_cases e:k=i
  ·subst e;have hf:=(h.gw k J).set j (V v);have e3:(s.g.set k ((s.g[k]).set j v)).getD k []=(s.g[k]).set j v:=by simp[List.getD,U]
   show aK _ _ (((s.g.set k ((s.g[k]).set j v)).getD k []).map _);rw[e3,List.map_set];rw[e2]at hf;exact hf
  ·have e3:(s.g.set k ((s.g[k]).set j v)).getD i []=s.g.getD i []:=by simp[List.getD,List.getElem?_set,e]
   show aK _ _ (((s.g.set k ((s.g[k]).set j v)).getD i []).map _);rw[e3];refine(h.gw i hi).tcs (p2 _ (g_ hi)).1 I (λZ=>e ?_);have e4:C.gb[i]=C.gb[k]:=Z;exact(wT q2 hi J e4).symm
 ·have Jc:i<s.g.length:=by simpa using hi
  by_cases e:k=i
  ·subst e;have:=h.g1 k U hk
   simpa using this
  ·have:=h.g1 i Jc hi'
   simpa[List.getElem_set,e]using this
 ·rcases h.var with hv|⟨b,n,D,rfl,h1,h2,h3,h4,h5⟩
  ·exact .inl hv
  ·exact .inr ⟨b,n,D,rfl,bK h1 I (λe=>by have Z:b=C.gb[k]:=e;have:=(q5 _ Y).2;omega),h2,h3,h4,h5⟩
end
section
variable{n k:Nat}{av vI vO vO1 vI0 vI1:BY}{C:IC}{w w1 w2 wr:AT}{vV:Option Nat}{s z z0:ES}{x:GA}{v:Nat->Int}
def uD{W:AT}{B:Nat}{U:List BY}(h:W.ownsRow B 2 1 av n U)(z:Int)(hB:B<=W.heap.size)(hn:n<=1000000):
  ∃va vc w3,(Builtin.append_ #[26,26] 26 #[av,rV W.heap.size 1 1]).run prog (W.alloc (.cells #[V z] 2))=.ok (.slice va (n+1) vc) w3/\w3.ownsRow B 2 1 (.slice va (n+1) vc) (n+1) (U++[V z])/\ak (λk=>av.ownBlock=some k) W w3/\∀k,(Value.slice va (n+1) vc).ownBlock=some k->av.ownBlock=some k∨W.heap.size<k:=by
 obtain⟨Y,hi,Jd,Je,Jc⟩:=info_parts nE;have I:Bl W (W.alloc (.cells #[V z] 2)):=au _ _;have h':=ownB h I;have Jb:(W.alloc (.cells #[V z] 2)).ownsRow W.heap.size 2 1 (rV W.heap.size 1 1) 1 [V z]:=ownsRow_lit W #[V z] 1 n_ d_ rfl;obtain⟨v',w',r1,J,r3,Z⟩:=cE (P:=prog) (w:=W.alloc (.cells #[V z] 2)) B 26 26 2 Y _ 1 8 underlying26 hi Jd Je Jc rfl d_ av _ _ h' (some ⟨W.heap.size,0,none⟩) 1 1 [V z] (λe=>by cases e) rfl (λad had k u hu=>by cases had;exact ownsRow.cells Jb (g:=W.heap.size) rfl k u hu) (λu hu=>by simp at hu;subst hu;rfl) o_ d_ (Ft I.size);obtain⟨va,vc,rfl,-⟩:=bj J;refine⟨va,vc,w',r1,J,(I.tcs (S:=λk=>av.ownBlock=some k)).next (T:=λk=>av.ownBlock=some k) (ak.of_grown r3 (λk hk=>hk)) (λk hk=>.inl hk),λk hk=>(Z k hk).imp id λh1=>?_⟩;rw[GO]at h1;omega
theorem cL.lt(hC:C.Ok)(h:IS C w vV vI vO s):∀k,cL C vO k->k<w.heap.size/\C.wa.heap.size<=k:=λk hk=>by
 obtain⟨p1,p2,p3⟩:=h.hi hC;obtain⟨q1,q2,q3,q4,q5⟩:=hC.pg;have:=hC.bel.size;rcases hk with rfl|hk|hk
 ·exact⟨p1,q3⟩
 ·exact⟨(p2 k hk).1,(q5 k hk).1⟩
 ·have:=World.ownsRow.lt h.out k hk
  exact⟨this.2,o_⟩
def cL.next(h1:ak (cL C vO) w w1)(h2:ak (cL C vO1) w1 w2)(ho:∀k,vO1.ownBlock=some k->vO.ownBlock=some k∨w.heap.size<=k):ak (cL C vO) w w2:=
 h1.next h2 λk hk=>by
  rcases hk with rfl|hk|hk
  ·exact .inl (.inl rfl)
  ·exact .inl (.inr (.inl hk))
  ·rcases ho k hk with h|h
   ·exact .inl (.inr (.inr h))
   ·exact .inr h
theorem BN(U:C.Ok){b:Nat}{D:DataW Unit}(h:IS C w (some b) vI vO s)(ho:w.ownsMap prog 9 (plainElem (H:=Unit) prog 2) b n D)(hN:fE D s.l)(hn:n+1+s.u<=100010){v:Int}(hz:x.size<=maxLen)(hg:gV C.t.globals x=none)(Y:et v){I:List (GA×Int)}(Z:∀y u,(y,u)∈I->(y=x/\u=v)∨(y≠x/\(y,u)∈s.l)):
  Calls prog 145 #[pV C.P,sV x,V v] w λe w'=>e=rW (.tuple #[])/\IS C w' (some b) vI vO {s with l:=I}/\ak (λk=>k=b) w w':=by
 have p4:=(h.box 4 _ rfl).1;have p5:=(h.box 5 _ rfl).1;obtain⟨n1,D1,Jc,hG⟩:=h.glb U;have Jf:=oC Jc hG hz hg;obtain⟨HO,HZ⟩:=h2 ho hz;have Je: -2147483648<=v/\v<=2147483647:=Y;have Jd:Hid (∀w',w'.ownsMap prog 9 (plainElem (H:=Unit) prog 2) b (n+1) (D.put (kS x) (.lit (.int .i64 v)))->w.grownBy w' (some b)->IS C w' (some b) vI vO {s with l:=I}/\ak (λk=>k=b) w w'):=λw' h1 h2=>by
  have J:ak (λk=>k=b) w w':=ak.of_grown h2 (λk hk=>by cases hk;rfl);refine⟨h.vars U J h1 (hN.put Z) hn (λy hy=>?_),J⟩;rcases Z y.1 y.2 hy with⟨-,e⟩|⟨-,hm⟩
  ·rw[e];exact Y
  ·exact h.ok.l _ hm
 go_in;go_wp2_with(first
  | (at_mapUpdate;refine wpList_mapUpdate_own _ rfl _ _ _ 77 rfl 9 2 (Maps.string_keyed underlying9) underlying77 _ b n D rfl HO (by unfold maxLen;omega) _ _ _ rfl rfl (WideMaps.keyOf_string_mk underlying9 HZ) _ [] (plainElem_int underlying2 (WalkArith.wf_i64 o_)) ?_;intro w1 Jb Ja)
  | fail)
 have HE:=ah (Jd w1 Jb Ja);go_wp2_with fail;exact bodyPost_end (v:=.tuple #[]) (by simp[results,results145,go_sem]) rfl ⟨rfl,HE⟩
def BO(J:C.Ok)(h:IS C w vV vI vO s){v:Int}(hz:x.size<=maxLen)(I:k<C.t.globals.length)(h1:gV C.t.globals x=some k)(hv:et v):
  Calls prog 145 #[pV C.P,sV x,V v] w λe w'=>e=rW (.tuple #[])/\IS C w' vV vI vO {s with g:=s.g.set k ((s.g.getD k []).set 0 v)}/\ak (cL C vO) w w':=by
 have p4:=(h.box 4 _ rfl).1;obtain⟨n1,D1,Ja,hG⟩:=h.glb J;have Jf:=rh Ja hG hz I h1;have Je:=uB C.t.globals[k] (lj J.snd _ (g_ I));have Y:=ah (h.gset J I (j:=0) Je hv);obtain⟨b,hb,Jd,Jb,hf⟩:=h.word J I;rw[hb]at Y Jf;have HT:Hid (ak (cL C vO) w (w.setCell ⟨b,0,none⟩ (V v))):=(ak.refl _ _).setCell (p:=⟨b,0,none⟩) (.inr (.inl Jd)) _;have U:=hf 0 (V ((s.g.getD k []).getD 0 0)) (by
  generalize s.g.getD k []=ws at Jb⊢;rw[getElem?_map,GH o_];simp[List.getD,show 0<ws.length by omega])
 have Z:=U.1;have f0:=U.2;generalize dV C.t.globals[k]=N at*;generalize (s.g.getD k []).getD 0 0=v0 at Z;have Jg:(0:Int)<(N:Int):=o_;go_in;go_wp2_with fail;exact bodyPost_end (v:=.tuple #[]) (by simp[results,results145,go_sem]) rfl ⟨rfl,Y,HT⟩
def rH(C:IC)(w:AT)(vO:BY)(ar:BY)(A:Nat)(us:Nat->BY):Prop:=∃a cap,ar=.slice a A cap/\A<=cap/\cap<=9223372036854775807/\(0<A->∃B,a=some ⟨B,0,none⟩/\B<w.heap.size/\¬cL C vO B/\∀i,i<A->w.cell? ⟨B,i,none⟩=some (us i))
structure xA (C:IC) (w:AT) (vV:Option Nat) (vO:BY) (v:Nat->Int) (z:ES) (k:Nat) (av:BY) (wr:AT) (vI1 vO1:BY):Prop where
 row:wr.ownsRow w.heap.size 2 1 av k ((cX k v).map (Value.int .i64))
 st:IS C wr vV vI1 vO1 z
 tc:ak (cL C vO) w wr
 oo:∀q,vO1.ownBlock=some q->vO.ownBlock=some q∨w.heap.size<=q
 ap:∀q,av.ownBlock=some q->vO1.ownBlock≠some q
def xA.start(h:IS C w vV vI vO z):xA C w vV vO v z 0 nV w vI vO:=
 ⟨ownsRow_nil _ _ _ _,h,ak.refl _ _,λq hq=>.inl hq,λq hq=>by cases hq⟩
def xA.past(hC:C.Ok){U:ES}{Z I:BY}(h0:IS C w vV vI0 vO z0)(h:xA C w vV vO v z k av wr vI1 vO1)(hR:IS C w2 vV Z I U)(ht:ak (cL C vO1) wr w2)(Y:∀q,I.ownBlock=some q->vO1.ownBlock=some q∨wr.heap.size<=q):xA C w vV vO v U k av w2 Z I:=by
 have J:=λq (hq:av.ownBlock=some q)=>ownsRow.lt h.row q hq;obtain⟨p1,p2,p3⟩:=h0.hi hC;have Jd:=h.tc.size;refine⟨aO h.row ht (λq hq hT=>?_),hR,cL.next h.tc ht h.oo,λq hq=>?_,λq hq e=>?_⟩
 ·have h1:=(J q hq).1;rcases hT with rfl|hT|hT
  ·omega
  ·have:=(p2 q hT).1;omega
  ·exact h.ap q hq hT
 ·rcases Y q hq with h1|h1
  ·exact h.oo q h1
  ·exact .inr o_
 ·rcases Y q e with h1|h1
  ·exact h.ap q hq h1
  ·have:=(J q hq).2;omega
theorem xA.more(Y:C.Ok)(h0:IS C w vV vI0 vO z0)(h:xA C w vV vO v z k av wr vI1 vO1)(hk:k<=1000)(I:Below wr.heap.size wr w1):
  ∃va vc w3,(Builtin.append_ #[26,26] 26 #[av,rV w1.heap.size 1 1]).run prog (w1.alloc (.cells #[V (v k)] 2))=.ok (.slice va (k+1) vc) w3/\xA C w vV vO v z (k+1) (.slice va (k+1) vc) w3 vI1 vO1:=by
 have Jb:=h.tc.size;have Jc:=I.size;obtain⟨va,vc,w3,r1,r2,Z,r4⟩:=uD (ownB h.row I) (v k) o_ o_;have U:=λq (hq:av.ownBlock=some q)=>World.ownsRow.lt h.row q hq;obtain⟨p1,p2,p3⟩:=h0.hi Y;refine⟨va,vc,w3,r1,?_,(h.st.below Y I).past Y Z (λq hq=>⟨by have:=(U q hq).1;omega,λe=>?_,h.ap q hq⟩),(h.tc.of_below I).next Z (λq hq=>.inr (U q hq).1),h.oo,λq hq e=>?_⟩
 ·rw[n8,List.map_append];exact r2
 ·have h1:=(U q hq).1;rcases h0.var with⟨J,-⟩|⟨b,n,D,J,h2,-⟩
  ·rw[J]at e;cases e
  ·rw[J]at e;cases e;have:=h2.lt
   omega
 ·rcases r4 q hq with h1|h1
  ·exact h.ap q h1 e
  ·have:=(World.ownsRow.lt h.st.out q e).2;omega
def xA.ar(hC:C.Ok)(h0:IS C w vV vI0 vO z0)(h:xA C w vV vO v z k av wr vI1 vO1):mT C wr vO1 av (cX k v):=by
 obtain⟨p1,p2,p3⟩:=h0.hi hC;have I:(cX k v).length=k:=gD k v;have J:=λq (hq:av.ownBlock=some q)=>ownsRow.lt h.row q hq;have U:=h.row;rcases h.row.2 with⟨e,Z⟩|⟨g,Jc,Jd,e,h3,h4,h5⟩
 ·exact⟨none,0,by rw[e,I,Z],by rw[I,Z];exact n_,o_,λhp=>absurd hp (by rw[I];omega)⟩
 ·obtain⟨q1,Y,-⟩:=h5;unfold maxLen at Y;refine⟨_,Jc,by rw[I];exact e,by rw[I];exact q1,Y,λhp=>⟨g,rfl,?_,λhT=>?_,λj hj=>?_⟩⟩
  ·exact(J g (by rw[e];rfl)).2
  ·have h1:=(J g (by rw[e];rfl)).1;rcases hT with hT|hT|hT
   ·omega
   ·have:=(p2 g hT).1;omega
   ·exact h.ap g (by rw[e];rfl) hT
  ·rw[e]at U;have:=ownsRow.cells U (g:=g) rfl j (V (cX k v)[j]) (by simp[hj])
   rwa[em,Nat.zero_add]at this
end
section
variable{C:IC}{n A j:Nat}{K:Nat->List Nd}{st:Nat->ES}{v:Nat->Int}{c:Int}{s':ES}
structure BP (C:IC) (n:Nat) (A:Nat) (K:Nat->List Nd) (st:Nat->ES) (v:Nat->Int) (j:Nat) (c:Int) (s':ES):Prop where
 le:j<=A
 kid:∀i,i<j->Ev C.t C.fr n (.e (K i)) (st i) (.val (v i)) (st (i+1))
 end':j<A->Ev C.t C.fr n (.e (K j)) (st j) (.out c) s'
 kn:∀i,i<A->rU C.t ((st 0).l.map Prod.fst) (K i)
 one:∀i,i<A->aP (K i)=true
 sm:A<=100
theorem BP.l(h:BP C n A K st v j c s')(h0:OkW (st 0)):∀i,i<=j->OkW (st i)/\(st i).l=(st 0).l/\∀k,k<i->et (v k)
 | 0,_=>⟨h0,rfl,λk hk=>by omega⟩
 | i+1,hi=>by
  obtain⟨a1,a2,a3⟩:=h.l h0 i o_;obtain⟨b1,b2,b3⟩:=(h.kid i o_).inv a1 trivial;refine⟨b1,b3.2.2.2.trans a2,λk hk=>?_⟩;by_cases e:k=i
  ·subst e;exact b2 _ (.inl rfl)
  ·exact a3 k o_
def rI(C:IC)(w:AT)(vV:Option Nat)(vO:BY)(A:Nat)(st:Nat->ES)(v:Nat->Int)(j:Nat)(c:Int)(s':ES)(x:Ending)(w':AT):Prop:=∃vI' vO',ak (cL C vO) w w'/\(∀q,vO'.ownBlock=some q->vO.ownBlock=some q∨w.heap.size<=q) /\
 ((j=A/\∃a n cp,x=rW (.tuple #[.slice a n cp,V 0])/\IS C w' vV vI' vO' (st A)/\mT C w' vO' (.slice a n cp) (cX A v))∨(j<A/\x=rW (.tuple #[nV,V (c+1)])/\IS C w' vV vI' vO' s'))
def mE(hC:C.Ok)(IH:DH C n)(hO:BP C n A K st v j c s')(hc:c=2∨c=3)(Xg:jd C.t ((st 0).l.map Prod.fst)){w:AT}{vV:Option Nat}{vI Z ar:BY}{us:Nat->BY}(h:IS C w vV vI Z (st 0))(hL:rH C w Z ar A us)(hT:∀i,i<A->Tv C.w0 C.S (us i) (K i)):
  Calls prog 144 #[pV C.P,ar] w λx w'=>rI C w vV Z A st v j c s' x w':=by
 obtain⟨a,Xj,rfl,Xl,Xi,Jd⟩:=hL;obtain⟨Xb,HO,Xa,H0,Xc,Jv,HC⟩:=h7 IH hO Xg h Jd hT hC;have hA:=hO.sm;have Xh:=hO.le;go_in;go_wp2;go_loopw[11,4] (λi av wr=>∃(k:Nat) (xa:Option Addr) (xc:Nat) (Jj Ji:BY),i=V (k:Int)/\k<=j/\av=.slice xa k xc/\xA C w vV Z v (st k) k av wr Jj Ji) (λi _ _=>A-(RowKit.intOf i).toNat)
 case atStart=>exact⟨0,none,0,vI,Z,rfl,y_,rfl,xA.start H0⟩
 case round=>
  obtain⟨k,xa,xc,Jj,Ji,rfl,Xe,rfl,Y⟩:=hrel;have HV:=ah Y;by_cases hlt:k<A
  ·have Jy:(k:Int)<(A:Int):=o_
   obtain⟨B,rfl,J_,Xf,Js⟩:=Xc o_;have Jr:DO wr B k (us k):=(c_ (a:=⟨B,k,none⟩) (Y.tc.block B J_ Xf)).trans (Js k hlt);obtain⟨Xd,hl,Xk⟩:=HO.o.l H0.o.ok k Xe;obtain⟨tu,xu,hu⟩:=(Jv k hlt).isI;have Jp:=Jv k hlt;rw[hu]at Jr Jp;have Jc:∀(ri:ER) (si:ES),Ev C.t C.fr n (.e (K k)) (st k) ri si->Calls prog 177 #[pV C.P,.iface tu xu] wr λx w'=>jm C wr vV Ji ri si x w':=λri si hE=>Xb (K k) (st k) ri si hE (by rw[hl];exact HO.o.kn k hlt) (by rw[hl];exact Xa) (HO.o.one k hlt) wr vV Jj Ji (.iface tu xu) HV.o.st Jp;have Jw:=ah Jc;clear Jc Y Js Jp hu Xd hl;by_cases hj:k<j
   ·have Jq:=ah (Jw _ _ (HO.o.kid k hj));go_wp2_with fail;refine Jq.o.mono ?_;rintro x w2 ⟨Jl,Jo,rfl,hR,ht,ho⟩;have U:=HV.o.past HC H0 hR ht ho;obtain⟨W3,I⟩:=q_ (w2.alloc (.cells #[V 0,V (v k)] 75));have Jh:Bl w2 W3:=by rw[I];exact r_.alloc n_ _
    have Jg:aK W3 w2.heap.size [V 0,V (v k)]:=by rw[I];exact aH w2 _ _ i_
    obtain⟨va,vc,w4,r4,Jt⟩:=U.more HC H0 o_ Jh;obtain⟨Hr,Ju,Jk⟩:=h3 r4 Jt I;have x0:=(Jg 0 _ rfl).1;have x1:=(Jg 1 _ rfl).1;obtain⟨B3,J⟩:=q_ w2.heap.size;rw[<-J]at x0 x1;have Jn:=ah J;obtain⟨kk,Jm⟩:=q_ (k+1);rw[<-Jm]at Hr Ju;have Jx:=ah Jm;clear hR ht ho U I Jh Jg r4 Jt J Jm Jr;rw[show jR (.val (v k))=.agg #[V 0,V (v k)]from rfl];go_upto_region 5 with fail;rw[<-Jk.o,<-Jn.o];generalize v k=vk at x0 x1 Hr⊢;go_wp2_with(at_builtin;refine aC rfl (.tmp 23) (.tmp 26) _ rfl _ _ _ _ rfl rfl Hr ?_);go_roundw
    case rel=>
     have:=Ju.o
     rw[Jx.o]at this⊢;exact⟨k+1,va,vc,Jl,Jo,by go_num,o_,rfl,this⟩
    case measure=>exact FW
   ·obtain rfl:k=j:=by omega
    have Jq:=ah (Jw _ _ (HO.o.end' hlt));go_wp2_with fail;refine Jq.o.mono ?_;rintro x w2 ⟨Jl,Jo,rfl,hR,ht,ho⟩;have U:=HV.o.past HC H0 hR ht ho;obtain⟨W3,I⟩:=q_ (w2.alloc (.cells #[V (c+1),V 0] 75));have Jh:Bl w2 W3:=by rw[I];exact r_.alloc n_ _
    have Jg:aK W3 w2.heap.size [V (c+1),V 0]:=by rw[I];exact aH w2 _ _ i_
    have Jk:=ah I;have x0:=(Jg 0 _ rfl).1;obtain⟨B3,J⟩:=q_ w2.heap.size;rw[<-J]at x0;have Jn:=ah J;have Jb:Hid (∀X,Bl W3 X->rI C w vV Z A st v k c s' (rW (.tuple #[nV,V (c+1)])) X):=λX hX=>by
     have hb:Bl w2 X:=Jh.trans (hX.mono Jh.size);exact⟨Jl,Jo,U.tc.of_below hb,U.oo,.inr ⟨hlt,rfl,U.st.below HC hb⟩⟩
    rw[show jR (.out c)=.agg #[V (c+1),V 0]from rfl];have Jz:((c+1) != 0)=true:=by simp;omega
    generalize c+1=c1 at x0 Jb Jk Jz⊢;clear hR ht ho U I Jh Jg J Jr;go_upto_region 5 with fail;rw[<-Jk.o,<-Jn.o];go_wp2_with fail;go_quiet (fail);go_wp2_with fail;refine bodyPost_ret (v:=.tuple #[nV,V c1]) (by simp[results,results144,go_sem]) rfl ?_;exact Jb _ ⟨rfl,rfl,rfl,n_,λ_ _=>rfl⟩
  ·obtain rfl:k=A:=by omega
   obtain rfl:k=j:=by omega
   have Jy:¬(k:Int)<(k:Int):=o_;have Jb:Hid (rI C w vV Z k st v k c s' (rW (.tuple #[.slice xa k xc,V 0])) wr):=⟨Jj,Ji,Y.tc,Y.oo,.inl ⟨rfl,xa,k,xc,rfl,Y.st,Y.ar HC H0⟩⟩;go_wp2_with fail;refine bodyPost_ret (v:=.tuple #[.slice xa k xc,V 0]) (by simp[results,results144,go_sem]) rfl ?_;exact Jb
end
section
variable{C:IC}{w:AT}{vV:Option Nat}{vO:BY}{s2:ES}
theorem cC(U:C.Ok){W0 I w3:World}{Je Jb Z:Value}{s0:ES}{M:Nat}(hM:M=w.heap.size)(Y:IS C w vV Je vO s0)(Jc:Below w.heap.size w W0)(Jf:M<W0.heap.size)(h:IS C I vV Jb Z s2)(ht:ak (cL C vO) W0 I)(ho:∀k,Z.ownBlock=some k->vO.ownBlock=some k∨W0.heap.size<=k)(Jd:Below I.heap.size I w3){x0 x1:Value}(hf:aK w3 M [x0,x1])(r:ER){a b:Int}(ha:bW r=a)(hb:cI r=b):
  ((w3.setCell ⟨M,0,none⟩ (V a)).setCell ⟨M,1,none⟩ (V b)).cell? ⟨M,0,none⟩=some (V a)/\((w3.setCell ⟨M,0,none⟩ (V a)).setCell ⟨M,1,none⟩ (V b)).cell? ⟨M,1,none⟩=some (V b)/\jm C w vV vO r s2 (rW (.agg #[V a,V b])) ((w3.setCell ⟨M,0,none⟩ (V a)).setCell ⟨M,1,none⟩ (V b)):=by
 have hF:=(hf.set 0 (V a)).set 1 (V b);have hT:ak (λk=>k=M) w3 ((w3.setCell ⟨M,0,none⟩ (V a)).setCell ⟨M,1,none⟩ (V b)):=(((ak.refl (λk=>k=M) w3).setCell (p:=⟨M,0,none⟩) rfl _).setCell (p:=⟨M,1,none⟩) rfl _);obtain⟨p1,p2,p3⟩:=Y.hi U;refine⟨(hF 0 _ rfl).1,(hF 1 _ rfl).1,Jb,Z,by rw[jR,ha,hb],(h.below U Jd).past U hT (λk hk=>?_),?_,λk hk=>?_⟩
 ·have e:k=M:=hk;subst e;refine⟨o_,λe=>?_,λe=>?_⟩
  ·rcases Y.var with⟨J,-⟩|⟨q,n,D,J,h2,-⟩
   ·rw[J]at e;cases e
   ·rw[J]at e;cases e;have:=h2.lt
    omega
  ·rcases ho k e with h1|h1
   ·have:=(World.ownsRow.lt Y.out k h1).2;omega
   ·omega
 ·exact(((Jc.tcs (S:=cL C vO)).trans ht).of_below Jd).next hT (λk hk=>.inr (by have e:k=M:=hk;omega))
 ·rcases ho k hk with h1|h1
  ·exact .inl h1
  ·exact .inr (by have:=Jc.size;omega)
def wU(r1:ER)(s1:ES)(r2:ER)(s2:ES):Prop:=(∃c,r1=.out c/\r2=.out c/\s2=s1)∨∃x,r1=.val x/\((s1.u=0/\r2=.out 2/\s2=s1)∨(0<s1.u/\r2=.val (boolN (decide (x≠0)))/\s2=s1.sp))
def ti(b:Bool)(w:AT):Calls prog 205 #[.bool b] w λe w'=>e=rW (V (boolN b))/\w'=w:=by
 cases b
 ·go_in;go_wp2;go_ret;exact⟨rfl,rfl⟩
 ·go_in;go_wp2;go_ret;exact⟨rfl,rfl⟩
def kL(hC:C.Ok){n:Nat}(IH:DH C n){e:List Nd}{s s1:ES}{r1 r2:ER}(hE:Ev C.t C.fr n (.e e) s r1 s1)(hS:wU r1 s1 r2 s2)(Xh:rU C.t (s.l.map Prod.fst) e)(Xi:jd C.t (s.l.map Prod.fst))(Xj:aP e=true){vI vN:BY}(h:IS C w vV vI vO s)(hT:Tv C.w0 C.S vN e):
  Calls prog 216 #[pV C.P,vN] w λx w'=>jm C w vV vO r2 s2 x w':=by
 obtain⟨tn,xn,rfl⟩:=hT.isI;obtain⟨W0,M,Xe,hM,Jp,Xb,Ji⟩:=gg w;obtain⟨Xq,H0,HC,Xp,Js,HM,Xm,HS⟩:=h8 (IH e s r1 s1 hE Xh Xi Xj W0 vV vI vO _ (h.below hC Jp) hT) h hC Xe Jp hM Xb hS;have Xk:=ah hE.outc;have Jj:¬cL C vO M:=λhk=>by have:=(cL.lt hC h M hk).1;omega
 clear h hC IH hE Xh Xi Xj hT Xe Jp hM Xb hS;go_in;go_upto_region 1 with fail;rw[<-Xp.o,<-HM.o];go_wp2_with fail;refine Xq.o.mono ?_;rintro x w2 ⟨Xs,Jy,rfl,hR,ht,ho⟩;obtain⟨en,Jb⟩:=q_ (bW r1);obtain⟨I,Z⟩:=q_ (cI r1);rw[show jR r1=.agg #[V en,V I] by rw[Jb,Z];rfl];obtain⟨W3,Jk⟩:=q_ (w2.alloc (.cells #[V en,V I] 75));have Jr:Bl w2 W3:=by rw[Jk];exact r_.alloc n_ _
 have Jo:aK W3 w2.heap.size [V en,V I]:=by rw[Jk];exact aH w2 _ _ i_
 obtain⟨B3,Jf⟩:=q_ w2.heap.size;rw[<-Jf]at Jo;have Jq:aK w2 M [V 0,V 0]:=Xm.o.tcs Ji ht Jj;have Xo:B3≠M:=by have:=b_ (Jq 0 _ rfl).1;rw[Jf];exact λe=>by subst e;exact absurd this (Nat.lt_irrefl _)
 obtain⟨Jt,Jd,HR,Ht,Ho,Xd,Xn,Jg,Xg,Jx⟩:=h10 Jo (Jq.below Jr) hR ht ho Jf Jk Jr Jb Z;clear Jk Jr Jo Jf Jq hR ht ho Jb Z;have x0:=(Jt 0 _ rfl).1;have x1:=(Jt 1 _ rfl).1;have m0:=Jd 0 _ rfl;have m1:=Jd 1 _ rfl;obtain⟨y0,f0⟩:=m0;obtain⟨y1,f1⟩:=m1;go_upto_region 2 with fail;rw[<-Xn.o,<-Xd.o];rcases HS.o with⟨c,Y,J,e3⟩|⟨x,Y,hu⟩
 ·have Jb:en=c+1:=by rw[Xg.o,Y];rfl
  have Z:I=0:=by rw[Jx.o,Y];rfl
  have Xa:bW r2=en:=by rw[J,Jb];rfl
  have Jv:cI r2=I:=by rw[J,Z];rfl
  have Xl:(en != 0)=true:=by have:=Xk.o c Y;simp;omega
  have U:=ah (cC HC HM H0 Js Ji HR Ht Ho Jg Jd r2 Xa Jv);rw[<-e3]at U;clear Jb Z Xa Jv Y J e3;go_wp2_with fail;obtain⟨t0,t1,hQ⟩:=U;exact bodyPost_ret (v:=.agg #[V en,V I]) (by simp[results,results216,go_sem,t0,t1]) rfl hQ
 ·have Jb:en=0:=by rw[Xg.o,Y];rfl
  have Z:I=x:=by rw[Jx.o,Y];rfl
  subst Jb Z;have Jh:=HR.o.below HC Jg;rcases hu with⟨hu,J,e3⟩|⟨hu,J,e3⟩
  ·obtain⟨Jn,U⟩:=h2 (pP Jh hu) (cC HC HM H0 Js Ji HR Ht Ho Jg Jd r2 (a:=3) (b:=0) (by rw[J];rfl) (by rw[J];rfl));rw[<-e3]at U;clear Jh Y J e3 hu;go_wp2_with fail;refine Jn.o.mono ?_;rintro e w4 ⟨rfl,Jw⟩;rw[Jw];clear Jw;go_wp2_with fail;obtain⟨t0,t1,hQ⟩:=U;exact bodyPost_ret (v:=.agg #[V 3,V 0]) (by simp[results,results216,go_sem,t0,t1]) rfl hQ
  ·have Jn:=ah (dY HC Jh hu);clear Jh Y hu;go_wp2_with fail;refine Jn.o.mono ?_;rintro e w4 ⟨rfl,J_,Jl⟩;have Xr:¬cL C Jy B3:=λhk=>by have:=(cL.lt HC.o HR.o B3 hk).1;have:=Xd.o;omega
   have Ju:¬cL C Jy M:=λhk=>by
    rcases hk with h1|h1|h1
    ·exact Jj (.inl h1)
    ·exact Jj (.inr (.inl h1))
    ·rcases Ho.o M h1 with h2|h2
     ·exact Jj (.inr (.inr h2))
     ·omega
   have Jz:=Jt.o.tcs (b_ x0) Jl Xr;have Je:=Jd.o.tcs (b_ y0) Jl Ju;have Xf:ak (cL C vO) W0 w4:=cL.next (Ht.o.of_below Jg) Jl Ho;have U:=ah (cC HC HM H0 Js Ji J_ Xf Ho r_ Je r2 (a:=0) (b:=boolN (decide (I≠0))) (by rw[J];rfl) (by rw[J];rfl));rw[<-e3]at U;clear x0 x1 y0 y1 f0 f1 J e3 J_ Jl Xf;have x1:=(Jz 1 _ rfl).1;obtain⟨y0,f0⟩:=Je 0 _ rfl;obtain⟨y1,f1⟩:=Je 1 _ rfl;clear Jz Je;have Jm:decide (I≠0)=(I != 0):=by by_cases h:I=0 <;> simp[h]
   rw[Jm]at U;go_wp2_with fail;refine(ti _ w4).mono ?_;rintro e w5 ⟨rfl,Xc⟩;rw[Xc];clear Xc;generalize boolN (I != 0)=q at U⊢;go_wp2_with fail;obtain⟨t0,t1,hQ⟩:=U;exact bodyPost_ret (v:=.agg #[V 0,V q]) (by simp[results,results216,go_sem,t0,t1]) rfl hQ
end
section
variable{n:Nat}{e:List Nd}{s s':ES}{r:ER}
theorem Ak{t:Tr}{fr:List Int}(h:Ev t fr (n+1) (.e e) s r s')(J:(aB e).kind=8∨(aB e).kind=9):∃b,Cut e 2 b/\∃r1 s1 r2 s2,Ev t fr n (.e (kid e b 0)) s r1 s1/\wU r1 s1 r2 s2 /\
  ((((∃c,r2=.out c/\c ≠ -1)∨∃q,r2=.val q/\((aB e).kind=8/\q=0∨(aB e).kind=9/\q≠0))/\r=r2/\s'=s2)∨∃q,r2=.val q/\((aB e).kind=8/\q≠0∨(aB e).kind=9/\q=0)/\∃r3 s3,Ev t fr n (.e (kid e b 1)) s2 r3 s3/\wU r3 s3 r s'):=by
 have I:∀ {x:Int},x=0->boolN (decide (x≠0))=0:=λh=>by simp[h,boolN]
 have bn:∀ {x:Int},x≠0->boolN (decide (x≠0))≠0:=λh=>by simp[h,boolN]
 cases h using Ev_i with
 | kid _ _ A b st v j c _ h1 h2 h3 h4 h5 h6=>rcases J with h|h <;> contradiction
 | dry _ _ A b st v h1 h2 h3 h4 h5=>rcases J with h|h <;> contradiction
 | work _ _ A b st v h1 h2 h3 h4 h5 h6=>rcases J with h|h <;> contradiction
 | call _ _ A b st v f _ _ h1 h2 h3 h4 h5 h6=>omega
 | left _ _ b _ c _ h1 h2 h3=>exact⟨b,h1,_,_,_,_,h3,.inl ⟨c,rfl,rfl,rfl⟩,.inl ⟨.inl ⟨c,rfl,by rcases h3.outc c rfl with h|h <;> omega⟩,rfl,rfl⟩⟩
 | ldry _ _ b _ x _ h1 h2 h3 h4=>exact⟨b,h1,_,_,_,_,h3,.inr ⟨x,rfl,.inl ⟨h4,rfl,rfl⟩⟩,.inl ⟨.inl ⟨2,rfl,d_⟩,rfl,rfl⟩⟩
 | lone _ _ b _ x _ h1 h2 h3 h4=>exact⟨b,h1,_,_,_,_,h3,.inr ⟨x,rfl,.inr ⟨h4,rfl,rfl⟩⟩,.inl ⟨.inr ⟨_,rfl,h2.imp (λh=>⟨h.1,I h.2⟩) (λh=>⟨h.1,bn h.2⟩)⟩,rfl,rfl⟩⟩
 | rigt _ _ b _ x s1 c _ h1 h2 h3 h4 h5=>exact⟨b,h1,_,_,_,_,h3,.inr ⟨x,rfl,.inr ⟨h4,rfl,rfl⟩⟩,.inr ⟨_,rfl,h2.imp (λh=>⟨h.1,bn h.2⟩) (λh=>⟨h.1,I h.2⟩),_,_,h5,.inl ⟨c,rfl,rfl,rfl⟩⟩⟩
 | rdry _ _ b _ x s1 y _ h1 h2 h3 h4 h5 h6=>exact⟨b,h1,_,_,_,_,h3,.inr ⟨x,rfl,.inr ⟨h4,rfl,rfl⟩⟩,.inr ⟨_,rfl,h2.imp (λh=>⟨h.1,bn h.2⟩) (λh=>⟨h.1,I h.2⟩),_,_,h5,.inr ⟨y,rfl,.inl ⟨h6,rfl,rfl⟩⟩⟩⟩
 | both _ _ b _ x s1 y _ h1 h2 h3 h4 h5 h6=>exact⟨b,h1,_,_,_,_,h3,.inr ⟨x,rfl,.inr ⟨h4,rfl,rfl⟩⟩,.inr ⟨_,rfl,h2.imp (λh=>⟨h.1,bn h.2⟩) (λh=>⟨h.1,I h.2⟩),_,_,h5,.inr ⟨y,rfl,.inr ⟨h6,rfl,rfl⟩⟩⟩⟩
def wU.l{Y U:ER}{J I:ES}(h:wU Y J U I):I.l=J.l:=by
 rcases h with⟨c,-,-,rfl⟩|⟨x,-,⟨-,-,rfl⟩|⟨-,-,rfl⟩⟩ <;> rfl
def mF{C:IC}(hC:C.Ok)(IH:DH C n)(hE:Ev C.t C.fr (n+1) (.e e) s r s'){tb:Bool}(Z:(aB e).kind=8/\tb=true∨(aB e).kind=9/\tb=false)(Xk:rU C.t (s.l.map Prod.fst) e)(Xl:jd C.t (s.l.map Prod.fst))(Xv:aP e=true){w:AT}{vV:Option Nat}{vI vO vx vy:BY}(h:IS C w vV vI vO s)(hT:∀b,Cut e 2 b->Tv C.w0 C.S vx (kid e b 0)/\Tv C.w0 C.S vy (kid e b 1)):
  Calls prog 202 #[pV C.P,vx,vy,.bool tb] w λx w'=>jm C w vV vO r s' x w':=by
 obtain⟨b,Je,r1,s1,r2,s2,J_,Xi,Jc⟩:=Ak hE (Z.imp (λh=>h.1) (λh=>h.1));obtain⟨Jx,Xh⟩:=hT b Je;obtain⟨A',b',Jd,Jh⟩:=gZ Xv;have Ja:∀i,i<2->aP (kid e b i)=true:=λi hi=>by
  obtain⟨rfl,hb⟩:=Je.one Jd;have e1:kid e b i=kid e b' i:=by unfold kid;rw[hb i o_,hb (i+1) o_]
  rw[e1];exact Jh i hi
 obtain⟨tx,xx,rfl⟩:=Jx.isI;obtain⟨ty,xy,rfl⟩:=Xh.isI;obtain⟨W0,M,Xr,hM,Xa,Xn,Xb⟩:=gg w;have Yd:=ah (kL hC IH J_ Xi Xk.kid Xl (Ja 0 o_) (h.below hC Xa) Jx);have Xg:s2.l=s.l:=Xi.l.trans (J_.inv h.ok trivial).2.2.2.2.2;have Xo:Hid (∀(X:AT) (Jl Jg:BY) r3 s3,IS C X vV Jl Jg s2->Ev C.t C.fr n (.e (kid e b 1)) s2 r3 s3->wU r3 s3 r s'->Calls prog 216 #[pV C.P,.iface ty xy] X λx w'=>jm C X vV Jg r s' x w'):=λX Jl Jg r3 s3 hX Jn Jo=>kL hC IH Jn Jo (by rw[Xg];exact Xk.kid) (by rw[Xg];exact Xl) (Ja 1 o_) hX Xh;obtain⟨H0,HC,Yc,Xp,HM,X_,Ji,HK⟩:=h8 h hC Xr Xa hM Xn Jc Z;have Jr:¬cL C vO M:=λZ=>by have:=(cL.lt hC h M Z).1;omega
 clear h hC IH hE J_ Xi Xk Xl Xv hT Xr Xa hM Xn Jc Jx Xh Jh Ja Je Jd Xg Z;go_in;go_upto_region 1 with fail;rw[<-Yc.o,<-HM.o];go_wp2_with fail;refine Yd.o.mono ?_;rintro x w2 ⟨Jl,Jg,rfl,hR,ht,ho⟩;obtain⟨U,Jf⟩:=q_ (bW r2);obtain⟨I,J⟩:=q_ (cI r2);rw[show jR r2=.agg #[V U,V I] by rw[Jf,J];rfl];obtain⟨W3,Js⟩:=q_ (w2.alloc (.cells #[V U,V I] 75));have Xd:Bl w2 W3:=by rw[Js];exact r_.alloc n_ _
 have Jy:aK W3 w2.heap.size [V U,V I]:=by rw[Js];exact aH w2 _ _ i_
 obtain⟨B3,Jp⟩:=q_ w2.heap.size;rw[<-Jp]at Jy;have Xc:aK w2 M [V 0,V 0]:=X_.o.tcs Xb ht Jr;have Yb:B3≠M:=by have:=b_ (Xc 0 _ rfl).1;rw[Jp];exact λe=>by subst e;exact absurd this (Nat.lt_irrefl _)
 obtain⟨Xq,Jt,HR,Ht,Ho,Xz,Ya,Jq,Ju,Jw⟩:=h10 Jy (Xc.below Xd) hR ht ho Jp Js Xd Jf J;clear Js Xd Jy Jp Xc hR ht ho Jf J;have x0:=(Xq 0 _ rfl).1;have x1:=(Xq 1 _ rfl).1;obtain⟨y0,f0⟩:=Jt 0 _ rfl;obtain⟨y1,f1⟩:=Jt 1 _ rfl;go_upto_region 2 with fail;rw[<-Ya.o,<-Xz.o];rcases Ji.o with⟨Jk,e2,e3⟩|⟨q,e1,hq,r3,s3,Jn,Jo⟩
 ·have Jj:=ah (cC HC HM H0 Xp Xb HR Ht Ho Jq Jt r (a:=U) (b:=I) (by rw[e2];exact Ju.o.symm) (by rw[e2];exact Jw.o.symm));rw[<-e3]at Jj;rcases Jk with⟨c,Y,hc⟩|⟨q,Y,hq⟩
  ·have Xw:(U != 0)=true:=by
    have:U=c+1:=by rw[Ju.o,Y];rfl
    simp
    omega
   clear e2 e3 Y hc;go_wp2_with fail;obtain⟨t0,t1,hQ⟩:=Jj;exact bodyPost_ret (v:=.agg #[V U,V I]) (by simp[results,results202,go_sem,t0,t1]) rfl hQ
  ·have Jf:U=0:=by rw[Ju.o,Y];rfl
   have J:I=q:=by rw[Jw.o,Y];rfl
   have Jv:(tb=true/\(I != 0)=false)∨(tb=false/\(I != 0)=true):=by
    rcases HK.o with⟨k1,e5⟩|⟨k1,e5⟩
    ·refine .inl ⟨e5,?_⟩;have:I=0:=by rw[J];omega
     simp[this]
    ·refine .inr ⟨e5,?_⟩;have:I≠0:=by rw[J];omega
     simp[this]
   subst Jf;clear e2 e3 Y hq J HK;rcases Jv with⟨rfl,hz⟩|⟨rfl,hz⟩;all_goals (
    go_wp2_with fail;obtain⟨t0,t1,hQ⟩:=Jj;exact bodyPost_ret (v:=.agg #[V 0,V I]) (by simp[results,results202,go_sem,t0,t1]) rfl hQ)
 ·have Jf:U=0:=by rw[Ju.o,e1];rfl
  have J:I=q:=by rw[Jw.o,e1];rfl
  have Jv:(tb=true/\(I != 0)=true)∨(tb=false/\(I != 0)=false):=by
   rcases HK.o with⟨k1,e5⟩|⟨k1,e5⟩
   ·refine .inl ⟨e5,?_⟩;have:I≠0:=by rw[J];omega
    simp[this]
   ·refine .inr ⟨e5,?_⟩;have:I=0:=by rw[J];omega
    simp[this]
  subst Jf;have Xy:=ah (Xo W3 Jl Jg r3 s3 (HR.o.below HC Jq) Jn Jo);clear e1 hq J Jn Jo Xo HK;rcases Jv with⟨rfl,hz⟩|⟨rfl,hz⟩;all_goals (
   go_wp2_with fail;refine Xy.o.mono ?_;rintro x w4 ⟨Ye,Xx,rfl,Xt,Xj,Xs⟩;have Xf:¬cL C Jg M:=λZ=>by
    rcases Z with h1|h1|h1
    ·exact Jr (.inl h1)
    ·exact Jr (.inr (.inl h1))
    ·rcases Ho.o M h1 with h2|h2
     ·exact Jr (.inr (.inr h2))
     ·omega
   have Jm:=Jt.o.tcs (b_ y0) Xj Xf;have Xu:ak (cL C vO) W0 w4:=cL.next (Ht.o.of_below Jq) Xj Ho;have Xm:∀k,Xx.ownBlock=some k->vO.ownBlock=some k∨W0.heap.size<=k:=λk Z=>by
    rcases Xs k Z with h1|h1
    ·exact Ho k h1
    ·have:=Ht.o.size;have:=Jq.o.size;exact .inr o_
   obtain⟨Y,Xe⟩:=q_ (bW r);obtain⟨v4,Jz⟩:=q_ (cI r);rw[show jR r=.agg #[V Y,V v4] by rw[Xe,Jz];rfl];have Jj:=ah (cC HC HM H0 Xp Xb Xt Xu Xm r_ Jm r Xe.symm Jz.symm);clear x0 x1 y0 y1 f0 f1 Xt Xj Xu Xs Xm Xe Jz;obtain⟨y0,f0⟩:=Jm 0 _ rfl;obtain⟨y1,f1⟩:=Jm 1 _ rfl;clear Jm;go_wp2_with fail;obtain⟨t0,t1,hQ⟩:=Jj;exact bodyPost_ret (v:=.agg #[V Y,V v4]) (by simp[results,results202,go_sem,t0,t1]) rfl hQ)
end
section
variable{C:IC}{w w':AT}{vV:Option Nat}{vO vI va xu:BY}{r:ER}{s' s:ES}{vs:List Int}{nm:GA}{k:Nat}{tu:GC}{v op:Int}
def oE(W:AT)(v:BY):(Instr.typeAssert (.iface 277 v) 183 277 true).run prog W=.ok (.tuple #[v,.bool true]) W:=by kernel_rfl
def ro(W:AT)(u:GC)(v:BY)(h:u≠277):(Instr.typeAssert (.iface u v) 183 277 true).run prog W=.ok (.tuple #[.agg #[],.bool false]) W:=by
 have e:(Instr.typeAssert (.iface u v) 183 277 true).run prog W=(if u=277 then(pure (Value.tuple #[v,.bool true]):Sem BY)else(do pure (Value.tuple #[<-zeroValue 277,.bool false]))).run prog W:=k_;rw[e,if_neg h];show _=_;kernel_rfl
def jm.drew(Y:C.Ok){x:Ending}(h:jm C w vV vO r s' x w'):jm C w vV vO r s' x w'.drew:=by
 obtain⟨I,U,J,h2,h3,h4⟩:=h;exact⟨I,U,J,h2.below Y (r_.drew),h3.drew,h4⟩
def i7{W:AT}{b nn:Nat}{D:DataW Unit}{J:List Fu}(Y:W.ownsMap prog 9 (plainElem (H:=Unit) prog 2) b nn D)(hN:cR D J){x:GA}(Z:x.size<=maxLen){g:Nat}(h:bO J x=some g):
  (Instr.lookup 77 (.map (some b)) (sV x) false).run prog W=.ok (V (g:Int)) W:=by
 obtain⟨c,U,I,_⟩:=Y.lookup_int (Maps.string_keyed underlying9) underlying77 underlying2 (zeroValue2 _) (WideMaps.keyOf_string_mk underlying9 Z);rw[hN.val x g h]at I;simp only[DataW.lit.injEq,Lit.int.injEq,true_and]at I;subst I;exact U
def mT.below(hC:C.Ok)(h:mT C w vO va vs)(h0:IS C w vV vI vO s)(I:Bl w w'):mT C w' vO va vs:=by
 obtain⟨a,c,e,Y,h2,h3⟩:=h;refine⟨a,c,e,Y,h2,λhp=>?_⟩;obtain⟨b,U,J,hn,Z⟩:=h3 hp;exact⟨b,U,Ft I.size,hn,λj hj=>(I.cell (p:=⟨b,j,none⟩) J).trans (Z j hj)⟩
def dG(I:C.Ok)(h:IS C w vV vI vO s)(cs:Array BY)(T:GC)(Jg:cs.size<=1000):∃W0 W1 M B,W0=w.alloc (.cells #[V 0,V 0] 75)/\W1=W0.alloc (.cells cs T)/\M=w.heap.size/\B=W0.heap.size/\Bl w W0/\Bl W0 W1/\aK W1 M [V 0,V 0]/\aK W1 B cs.toList/\IS C W0 vV vI vO s/\IS C W1 vV vI vO s/\M<W0.heap.size/\M≠B/\¬cL C vO M/\¬cL C vO B/\B<W1.heap.size:=by
 obtain⟨W0,J⟩:=q_ (w.alloc (.cells #[V 0,V 0] 75));obtain⟨W1,U⟩:=q_ (W0.alloc (.cells cs T));have Y:Bl w W0:=by rw[J];exact r_.alloc n_ _
 have Z:Bl W0 W1:=by rw[U];exact r_.alloc n_ _
 have Je:aK W0 w.heap.size [V 0,V 0]:=by rw[J];exact aH w _ _ i_
 have Jf:aK W1 W0.heap.size cs.toList:=by rw[U];exact aH W0 _ _ Jg
 have Jh:W0.heap.size=w.heap.size+1:=by rw[J,GO]
 have Ji:W1.heap.size=W0.heap.size+1:=by rw[U,GO]
 exact⟨W0,W1,w.heap.size,W0.heap.size,J,U,rfl,rfl,Y,Z,Je.below Z,Jf,h.below I Y,(h.below I Y).below I Z,o_,o_,λhk=>by have:=(cL.lt I h _ hk).1;omega,λhk=>by have:=(cL.lt I h _ hk).1;omega,o_⟩
def Al(J:C.Ok)(h:IS C w vV vI vO s)(v:Int)(va:Option Addr)(vn vc:Nat):
  Calls prog 203 #[pV C.P,.iface 236 (.agg #[V v]),.slice va vn vc] w λx w'=>jm C w vV vO (.val v) s x w':=by
 obtain⟨W0,W1,M,B,Jb,Ja,U,hB,Je,Z,I,hx,Jd,Jc,Jm,Jq,Jt,Ju,Jr⟩:=dG J h #[V v] 236 i_;obtain⟨H0,HC,Ji,Jn,Y,Jj,Jl,Jp,Jk,Jg,Jo,Js⟩:=h12 h J Jb Ja U hB Je Z I hx Jd Jc;have q1:=rZ;obtain⟨y0,f0⟩:=I 0 _ rfl;obtain⟨y1,f1⟩:=I 1 _ rfl;clear h J Jb Ja U hB Je Z I hx Jd Jc;go_in;go_upto_region 1 with fail;rw[<-Ji.o,<-Y.o];go_upto_region 4 with fail;rw[<-Jn.o,<-Jj.o];have Jh:=ah (cC HC.o Y.o H0.o Jl.o Jm Jo.o (ak.refl _ _) (λk hk=>.inl hk) Jp.o Jk.o (.val v) (a:=0) (b:=v) rfl rfl);have x0:=(Jg.o 0 _ rfl).1;go_wp2_with fail;obtain⟨t0,t1,hQ⟩:=Jh;exact bodyPost_ret (v:=.agg #[V 0,V v]) (by simp[results,results203,go_sem,t0,t1]) rfl hQ
def Am(J:C.Ok)(h:IS C w vV vI vO s)(Jt:jd C.t (s.l.map Prod.fst))(hz:nm.size<=maxLen)(Js:nm∈s.l.map Prod.fst∨(nm∉s.l.map Prod.fst/\globI C.t.globals nm=0))(va:Option Addr)(vn vc:Nat):
  Calls prog 203 #[pV C.P,.iface 264 (.agg #[sV nm]),.slice va vn vc] w λx w'=>jm C w vV vO (.val (s.rd C.t nm)) s x w':=by
 obtain⟨W0,W1,M,B,Jb,Ja,U,hB,Je,Jf,I,hx,Jd,Jc,Jn,Ju,Jw,Jx,Jv⟩:=dG J h #[sV nm] 264 i_;obtain⟨H0,HC,Jj,Jo,Y,Jk,Jm,Jr,Jl,Jg,Jq,Jp⟩:=h12 h J Jb Ja U hB Je Jf I hx Jd Jc;have q1:=λW v=>ee W 264 v d_;have q2:=sa;have Z:=ah (BM HC.o Jp.o Jt hz Js);generalize s.rd C.t nm=v at Z⊢;have Ji:=ah (cC HC.o Y.o H0.o Jm.o Jn Jq.o (ak.refl _ _) (λk hk=>.inl hk) Jr.o Jl.o (.val v) (a:=0) (b:=v) rfl rfl);obtain⟨y0,f0⟩:=I 0 _ rfl;obtain⟨y1,f1⟩:=I 1 _ rfl;clear h J Jb Ja U hB Je Jf I hx Jd Jc;go_in;go_upto_region 1 with fail;rw[<-Jj.o,<-Y.o];go_upto_region 7 with fail;rw[<-Jo.o,<-Jk.o];have x0:=(Jg.o 0 _ rfl).1;go_wp2_with fail;refine Z.o.mono ?_;rintro e w2 ⟨rfl,Jh⟩;rw[Jh];go_wp2_with fail;obtain⟨t0,t1,hQ⟩:=Ji;exact bodyPost_ret (v:=.agg #[V 0,V v]) (by simp[results,results203,go_sem,t0,t1]) rfl hQ
theorem tj(hC:C.Ok)(h:IS C w vV vI vO s)(hz:nm.size<=maxLen)(Z:k<C.t.globals.length)(hg:gV C.t.globals nm=some k)(hA:mT C w vO va [v])(hv:0<=v/\v<(s.ws C.t nm).length):
  Calls prog 203 #[pV C.P,.iface 266 (.agg #[sV nm,.iface tu xu]),va] w λx w'=>jm C w vV vO (.val ((s.ws C.t nm).getD v.toNat 0)) s x w':=by
 obtain⟨W0,W1,M,B,Jf,Je,hM,hB,J,Jd,U,hx,Jh,Jg,Ju,Jy,Xc,Xd,Jz⟩:=dG hC h #[sV nm,.iface tu xu] 266 (by show 2<=1000;omega);obtain⟨H0,I,Jp,Jv,HM,Jq,Js,Jx,Jt,Jl,Jw,Ji⟩:=h12 h hC Jf Je hM hB J Jd U hx Jh Jg;have q1:=λW v=>ee W 266 v d_;have q2:=λW v=>fe W 266 v d_;have q3:=jz;obtain⟨av,cv,rfl,-,-,hA⟩:=hA;obtain⟨Y,rfl,Jn,J_,Jj⟩:=hA i_;have Ja:=Jj 0 i_;simp only[List.getElem_cons_zero,l_c,l_n,Nat.zero_add]at Ja⊢;have hq:Bl w W1:=J.trans (Jd.mono J.size);have Jm:W1.cell? ⟨Y,0,none⟩=some (V v):=(hq.cell (p:=⟨Y,0,none⟩) Jn).trans Ja;clear Jj Ja hA;have Jk:s.ws C.t nm=s.g.getD k []:=by unfold ES.ws;rw[hg]
 rw[Jk]at hv⊢;obtain⟨b,hb,Xa,Jc,hf⟩:=Ji.out.word I.out Z;have HE:Hid (Calls prog 146 #[pV C.P,sV nm,V v] W1.drew λe w'=>e=rW (.pointer (some ⟨b,v.toNat,none⟩))/\w'=W1.drew):=by
  have:=uC I.out (Ji.out.below I.out (r_.drew)) hz Z hg (v:=v) (by rw[<-Jc];exact hv)
  rw[hb]at this;exact this
 have hc:=(hf v.toNat (V ((s.g.getD k []).getD v.toNat 0)) (by
  generalize s.g.getD k []=ws at hv⊢;rw[List.getElem?_map,List.getElem?_eq_getElem o_];simp[List.getD,show v.toNat<ws.length by omega])).1
 generalize (s.g.getD k []).getD v.toNat 0=vv at hc⊢;generalize v.toNat=j at hc HE;have Jo:=ah (cC I.out HM.out H0.out Js.out Ju Jw.out (ak.refl _ _) (λk Z=>.inl Z) Jx.out Jt.out (.val vv) (a:=0) (b:=vv) rfl rfl);obtain⟨y0,f0⟩:=U 0 _ rfl;obtain⟨y1,f1⟩:=U 1 _ rfl;clear h hC Jf Je hM hB J Jd U hx Jh Jg;go_in;go_upto_region 1 with fail;rw[<-Jp.out,<-HM.out];go_upto_region 10 with fail;rw[<-Jv.out,<-Jq.out];have x0:=(Jl.out 0 _ rfl).1;have Xb:W1.drew.cell? ⟨B,0,none⟩=some (sV nm):=x0;have Jr:W1.drew.cell? ⟨Y,0,none⟩=some (V v):=Jm;go_region_held3 (λW=>W.cell? ⟨B,0,none⟩=some (sV nm)/\W.cell? ⟨Y,0,none⟩=some (V v)) (go_simp)
  (first
  | ((with_reducible refine Calls.mono HE.out ?_);rintro e w2 ⟨rfl,rfl⟩))
 go_wp2_with fail;obtain⟨t0,t1,hQ⟩:=Jo;exact bodyPost_ret (v:=.agg #[V 0,V vv]) (by simp[results,results203,go_sem,t0,t1]) rfl (hQ.drew I)
theorem rq(hC:C.Ok)(h:IS C w vV vI vO s)(hz:nm.size<=maxLen)(Z:k<C.t.globals.length)(hg:gV C.t.globals nm=some k)(hA:mT C w vO va [v])(hv:¬(0<=v/\v<(s.ws C.t nm).length)):
  Calls prog 203 #[pV C.P,.iface 266 (.agg #[sV nm,.iface tu xu]),va] w λx w'=>jm C w vV vO (.out 3) s x w':=by
 obtain⟨W0,W1,M,B,Jf,Je,hM,hB,J,Jd,U,hx,Jh,Jg,Ju,Jy,Xc,Xd,Jz⟩:=dG hC h #[sV nm,.iface tu xu] 266 (by show 2<=1000;omega);obtain⟨H0,I,Jp,Jv,HM,Jq,Js,Jx,Jt,Jl,Jw,Ji⟩:=h12 h hC Jf Je hM hB J Jd U hx Jh Jg;have q1:=λW v=>ee W 266 v d_;have q2:=λW v=>fe W 266 v d_;have q3:=jz;obtain⟨av,cv,rfl,-,-,hA⟩:=hA;obtain⟨Y,rfl,Jn,J_,Jj⟩:=hA i_;have Ja:=Jj 0 i_;simp only[List.getElem_cons_zero,l_c,l_n,Nat.zero_add]at Ja⊢;have hq:Bl w W1:=J.trans (Jd.mono J.size);have Jm:W1.cell? ⟨Y,0,none⟩=some (V v):=(hq.cell (p:=⟨Y,0,none⟩) Jn).trans Ja;clear Jj Ja hA;have Jk:s.ws C.t nm=s.g.getD k []:=by unfold ES.ws;rw[hg]
 rw[Jk]at hv;obtain⟨b,hb,Xa,Jc,hf⟩:=Ji.out.word I.out Z;obtain⟨HE,Jo⟩:=h2 (rj I.out (Ji.out.below I.out (r_.drew)) hz Z hg (v:=v) (by rw[<-Jc];exact hv)) (cC I.out HM.out H0.out Js.out Ju Jw.out (ak.refl _ _) (λk Z=>.inl Z) Jx.out Jt.out (.out 3) (a:=4) (b:=0) rfl rfl);obtain⟨y0,f0⟩:=U 0 _ rfl;obtain⟨y1,f1⟩:=U 1 _ rfl;clear h hC Jf Je hM hB J Jd U hx Jh Jg;go_in;go_upto_region 1 with fail;rw[<-Jp.out,<-HM.out];go_upto_region 10 with fail;rw[<-Jv.out,<-Jq.out];have x0:=(Jl.out 0 _ rfl).1;have Xb:W1.drew.cell? ⟨B,0,none⟩=some (sV nm):=x0;have Jr:W1.drew.cell? ⟨Y,0,none⟩=some (V v):=Jm;go_region_held3 (λW=>W.cell? ⟨B,0,none⟩=some (sV nm)/\W.cell? ⟨Y,0,none⟩=some (V v)) (go_simp)
  (first
  | ((with_reducible refine Calls.mono HE.out ?_);rintro e w2 ⟨rfl,rfl⟩))
 go_wp2_with fail;obtain⟨t0,t1,hQ⟩:=Jo;exact bodyPost_ret (v:=.agg #[V 4,V 0]) (by simp[results,results203,go_sem,t0,t1]) rfl (hQ.drew I)
def An(J:C.Ok)(h:IS C w vV vI vO s)(hi:s.i=[])(va:Option Addr)(vn vc:Nat):
  Calls prog 203 #[pV C.P,.iface 277 (.agg #[]),.slice va vn vc] w λx w'=>jm C w vV vO (.val 0) s x w':=by
 obtain⟨W0,W1,M,B,Jb,Ja,U,hB,Je,Z,I,hx,Jd,Jc,Jm,Jr,Ju,Jv,Jt⟩:=dG J h #[] 277 i_;obtain⟨H0,HC,Ji,Jn,Y,Jj,Jl,Jq,Jk,Js,Jp,Jo⟩:=h12 h J Jb Ja U hB Je Z I hx Jd Jc;have q1:=λW v=>ee W 277 v d_;have q2:=λW v=>fe W 277 v d_;have q3:=λW v=>fq W 277 v d_;have q4:=λW v=>gO W 277 v d_;have q5:=oE;obtain⟨HG,Jh⟩:=h2 (Aj HC.o Jo.o hi) (cC HC.o Y.o H0.o Jl.o Jm Jp.o (ak.refl _ _) (λk hk=>.inl hk) Jq.o Jk.o (.val 0) (a:=0) (b:=0) rfl rfl);obtain⟨y0,f0⟩:=I 0 _ rfl;obtain⟨y1,f1⟩:=I 1 _ rfl;clear h J Jb Ja U hB Je Z I hx Jd Jc;go_in;go_upto_region 1 with fail;rw[<-Ji.o,<-Y.o];go_upto_region 19 with fail;rw[<-Jn.o,<-Jj.o];go_wp2_with fail;refine HG.o.mono ?_;rintro e w2 ⟨rfl,Jg⟩;rw[Jg];go_wp2_with fail;obtain⟨t0,t1,hQ⟩:=Jh;exact bodyPost_ret (v:=.agg #[V 0,V 0]) (by simp[results,results203,go_sem,t0,t1]) rfl hQ
def BQ(U:C.Ok)(h:IS C w vV vI vO s){q:Int}{Ji:List Int}(hi:s.i=q::Ji)(va:Option Addr)(vn vc:Nat):
  Calls prog 203 #[pV C.P,.iface 277 (.agg #[]),.slice va vn vc] w λx w'=>jm C w vV vO (.val q) {s with i:=Ji} x w':=by
 obtain⟨W0,W1,M,B,Jc,Jb,Y,hB,Jf,Jh,I,hx,Je,Jd,Jp,Jv,Js,Jz,Jx⟩:=dG U h #[] 277 i_;obtain⟨H0,HC,Jk,Jq,Z,Jm,Jo,Jt,Jn,Jw,Jy,Jr⟩:=h12 h U Jc Jb Y hB Jf Jh I hx Je Jd;have q1:=λW v=>ee W 277 v d_;have q2:=λW v=>fe W 277 v d_;have q3:=λW v=>fq W 277 v d_;have q4:=λW v=>gO W 277 v d_;have q5:=oE;have HG:=ah (wS HC.o Jr.o hi);obtain⟨y0,f0⟩:=I 0 _ rfl;obtain⟨y1,f1⟩:=I 1 _ rfl;clear h U Jc Jb Y hB Jf Jh I hx Je Jd;go_in;go_upto_region 1 with fail;rw[<-Jk.o,<-Z.o];go_upto_region 19 with fail;rw[<-Jq.o,<-Jm.o];go_wp2_with fail;refine HG.o.mono ?_;rintro e w2 ⟨Ju,rfl,Jl,Jg⟩;have J:=Jn.o.tcs (b_ y0) Jg Js;have Jj:=ah (cC HC.o Z.o H0.o Jo.o Jp Jl (cL.next (Jt.o.tcs) Jg (λk hk=>.inl hk)) (λk hk=>.inl hk) r_ J (.val q) (a:=0) (b:=q) rfl rfl);obtain⟨y0,f0⟩:=J 0 _ rfl;obtain⟨y1,f1⟩:=J 1 _ rfl;clear J;go_wp2_with fail;obtain⟨t0,t1,hQ⟩:=Jj;exact bodyPost_ret (v:=.agg #[V 0,V q]) (by simp[results,results203,go_sem,t0,t1]) rfl hQ
theorem BS(hC:C.Ok)(h:IS C w vV vI vO s)(Ji:0<=op/\op<=2)(hv:et v)(Y:mT C w vO va [v]):
  Calls prog 203 #[pV C.P,.iface 270 (.agg #[V op,.iface tu xu]),va] w λx w'=>jm C w vV vO (.val (kM op v)) s x w':=by
 obtain⟨W0,W1,M,B,Je,Jd,hM,hB,J,Z,U,hx,Jg,Jf,Jt,Jj,Xf,Xh,Jy⟩:=dG hC h #[V op,.iface tu xu] 270 (by show 2<=1000;omega);obtain⟨H0,HC,Jo,Ju,HM,Jp,Jr,Jw,Js,Jk,Jv,Xc⟩:=h12 h hC Je Jd hM hB J Z U hx Jg Jf;have q1:=λW v=>ee W 270 v d_;have q2:=λW v=>fe W 270 v d_;have q3:=λW v=>fq W 270 v d_;have q4:=λW v=>gO W 270 v d_;have q5:=λW v=>ro W 270 v d_;have q6:=uZ;obtain⟨av,cv,rfl,-,-,Y⟩:=Y;obtain⟨I,rfl,Jm,Jz,Jh⟩:=Y i_;have Ja:=Jh 0 i_;simp only[List.getElem_cons_zero,l_c,l_n,Nat.zero_add]at Ja⊢;have hq:Bl w W1:=J.trans (Z.mono J.size);have Jl:W1.cell? ⟨I,0,none⟩=some (V v):=(hq.cell (p:=⟨I,0,none⟩) Jm).trans Ja;clear Jh Ja Y;have HU:=ah (Bo op v Ji.1 Ji.2 hv W1.drew);generalize kM op v=q at HU⊢;have Jn:=ah (cC HC.out HM.out H0.out Jr.out Jt Jv.out (ak.refl _ _) (λk hk=>.inl hk) Jw.out Js.out (.val q) (a:=0) (b:=q) rfl rfl);have J_:¬I=M:=λe=>by omega
 obtain⟨y0,f0⟩:=U 0 _ rfl;obtain⟨y1,f1⟩:=U 1 _ rfl;clear h hC Je Jd hM hB J Z U hx Jg Jf;go_in;go_upto_region 1 with fail;rw[<-Jo.out,<-HM.out];go_upto_region 22 with fail;rw[<-Ju.out,<-Jp.out];have x0:=(Jk.out 0 _ rfl).1;have Xb:W1.drew.cell? ⟨B,0,none⟩=some (V op):=x0;have Jq:W1.drew.cell? ⟨I,0,none⟩=some (V v):=Jl;have Jx:W1.drew.cell? ⟨M,0,none⟩=some (V 0):=y0;have Xe:W1.drew.cell? ⟨M,1,none⟩=some (V 0):=y1;have Xg:W1.drew.frozen? ⟨M,0,none⟩=false:=f0;have Xd:W1.drew.frozen? ⟨M,1,none⟩=false:=f1;have Xa:¬B=M:=λe=>Jj e.symm;go_region_held3 (λW=>W.cell? ⟨B,0,none⟩=some (V op)/\W.cell? ⟨I,0,none⟩=some (V v)) (go_simp)
  (first
  | ((with_reducible refine Calls.mono HU.out ?_);rintro e w2 ⟨rfl,rfl⟩))
 go_wp2_with fail;obtain⟨t0,t1,hQ⟩:=Jn;exact bodyPost_ret (v:=.agg #[V 0,V q]) (by simp[results,results203,go_sem,t0,t1]) rfl (hQ.drew HC)
theorem Ao(hC:C.Ok)(h:IS C w vV vI vO s){ty:TypeId}{xy:Value}{J:Int}(Z:mT C w vO va [v,J]):
  Calls prog 203 #[pV C.P,.iface 272 (.agg #[V op,.iface tu xu,.iface ty xy]),va] w λx w'=>jm C w vV vO (.val (dZ op v J)) s x w':=by
 obtain⟨W0,W1,M,B,Ji,Jg,hM,hB,U,Jf,Y,hx,Jl,Jk,Jv,Jm,Xh,Xj,J_⟩:=dG hC h #[V op,.iface tu xu,.iface ty xy] 272 (by show 3<=1000;omega);obtain⟨H0,HC,Jq,Jw,HM,Jr,Jt,Jy,Ju,Jn,Jx,Xe⟩:=h12 h hC Ji Jg hM hB U Jf Y hx Jl Jk;have q1:=λW v=>ee W 272 v d_;have q2:=λW v=>fe W 272 v d_;have q3:=λW v=>fq W 272 v d_;have q4:=λW v=>gO W 272 v d_;have q5:=λW v=>ro W 272 v d_;have q6:=λW v=>yo W 272 v d_;have q7:=sb;obtain⟨av,cv,rfl,-,-,Z⟩:=Z;obtain⟨I,rfl,Jh,Xa,Je⟩:=Z i_;have Jb:=Je 0 i_;have Ja:=Je 1 i_;simp only[List.getElem_cons_zero,List.getElem_cons_succ,l_c,l_n,Nat.zero_add]at Jb Ja⊢;have hq:Bl w W1:=U.trans (Jf.mono U.size);have Jo:W1.cell? ⟨I,0,none⟩=some (V v):=(hq.cell (p:=⟨I,0,none⟩) Jh).trans Jb;have Jd:W1.cell? ⟨I,1,none⟩=some (V J):=(hq.cell (p:=⟨I,1,none⟩) Jh).trans Ja;clear Je Jb Ja Z;have HU:=ah (Fx op v J W1.drew);generalize dZ op v J=q at HU⊢;have Jp:=ah (cC HC.out HM.out H0.out Jt.out Jv Jx.out (ak.refl _ _) (λk hk=>.inl hk) Jy.out Ju.out (.val q) (a:=0) (b:=q) rfl rfl);have Xb:¬I=M:=λe=>by omega
 obtain⟨y0,f0⟩:=Y 0 _ rfl;obtain⟨y1,f1⟩:=Y 1 _ rfl;clear h hC Ji Jg hM hB U Jf Y hx Jl Jk;go_in;go_upto_region 1 with fail;rw[<-Jq.out,<-HM.out];go_upto_region 25 with fail;rw[<-Jw.out,<-Jr.out];have x0:=(Jn.out 0 _ rfl).1;have Xd:W1.drew.cell? ⟨B,0,none⟩=some (V op):=x0;have Js:W1.drew.cell? ⟨I,0,none⟩=some (V v):=Jo;have Jj:W1.drew.cell? ⟨I,1,none⟩=some (V J):=Jd;have Jz:W1.drew.cell? ⟨M,0,none⟩=some (V 0):=y0;have Xg:W1.drew.cell? ⟨M,1,none⟩=some (V 0):=y1;have Xi:W1.drew.frozen? ⟨M,0,none⟩=false:=f0;have Xf:W1.drew.frozen? ⟨M,1,none⟩=false:=f1;have Xc:¬B=M:=λe=>Jm e.symm;go_region_held3 (λW=>W.cell? ⟨B,0,none⟩=some (V op)/\W.cell? ⟨I,0,none⟩=some (V v)/\W.cell? ⟨I,1,none⟩=some (V J)) (go_simp)
  (first
  | ((with_reducible refine Calls.mono HU.out ?_);rintro e w2 ⟨rfl,rfl⟩))
 go_wp2_with fail;obtain⟨t0,t1,hQ⟩:=Jp;exact bodyPost_ret (v:=.agg #[V 0,V q]) (by simp[results,results203,go_sem,t0,t1]) rfl (hQ.drew HC)
theorem wV(I:C.Ok)(h:IS C w vV vI vO s)(hz:nm.size<=maxLen){f:Nat}(hf:bO C.t.funcs nm=some f){ra:Option Addr}{rn rc:Nat}{va:Option Addr}{Z vc:Nat}(hA:mT C w vO (.slice va Z vc) vs)(Jc:∀X,IS C X vV vI vO s->mT C X vO (.slice va Z vc) vs->Calls prog 39 #[pV C.P,V (f:Int),.slice va Z vc] X λx w'=>jm C X vV vO r s' x w'):
  Calls prog 203 #[pV C.P,.iface 268 (.agg #[sV nm,.slice ra rn rc]),.slice va Z vc] w λx w'=>jm C w vV vO r s' x w':=by
 obtain⟨W0,W1,M,B,Jk,Jj,hM,hB,Jd,Je,J,hx,Ji,Y,Ju,Xp,Xa,Xf,Xi⟩:=dG I h #[sV nm,.slice ra rn rc] 268 (by show 2<=1000;omega);obtain⟨H0,HC,Xe,J_,HM,Jn,Jq,Jh,Xk,Jm,Xr,Xl⟩:=h12 h I Jk Jj hM hB Jd Je J hx Ji Y;have q1:=λW v=>ee W 268 v d_;have q2:=λW v=>fe W 268 v d_;have q3:=λW v=>fq W 268 v d_;have q4:=qk;have p2:=(Y.box 2 _ rfl).1;obtain⟨nN,DN,Xg,hN⟩:=Y.num I;have Xm:(Instr.lookup 77 (.map (some C.bN)) (sV nm) false).run prog W1.drew=.ok (V (f:Int)) W1.drew:=i7 Xg.drew hN hz hf;obtain⟨ea,Jx⟩:=q_ (bW r);obtain⟨eb,Jw⟩:=q_ (cI r);have Xh:Hid (jR r=.agg #[V ea,V eb]):=by show _=_;rw[Jx,Jw];rfl
 have U:Bl W1 W1.drew:=r_.drew;have hq:Bl w W1.drew:=Jd.trans ((Je.trans (U.mono Je.size)).mono Jd.size);have Xc:Hid (Calls prog 39 #[pV C.P,V (f:Int),.slice va Z vc] W1.drew λx w'=>x=rW (jR r)/\(w'.cell? ⟨B,0,none⟩=some (sV nm)/\w'.cell? ⟨C.P,2,none⟩=some (.map (some C.bN))/\(Instr.lookup 77 (.map (some C.bN)) (sV nm) false).run prog w'=.ok (V (f:Int)) w')/\(∀a b:Value,(Instr.lookup 77 (.map (some C.bN)) (sV nm) false).run prog ((w'.setCell ⟨M,0,none⟩ a).setCell ⟨M,1,none⟩ b)=.ok (V (f:Int)) ((w'.setCell ⟨M,0,none⟩ a).setCell ⟨M,1,none⟩ b))/\aK w' M [V 0,V 0]/\jm C W1.drew vV vO r s' x w'):=by
  refine(Jc W1.drew (Y.below I U) (hA.below I h hq)).mono λx w' hE=>?_;obtain⟨Xb,Jy,e1,e2,e3,e4⟩:=hE;obtain⟨n3,D3,Jl,Jg⟩:=e2.num I;exact⟨e1,⟨((hx.below U).tcs (by have:=U.size;omega) e3 Xf 0 _ rfl).1,(e2.box 2 _ rfl).1,i7 Jl Jg hz hf⟩,λa b=>i7 (bK Jl ((((ak.refl (λk=>k=M) w').setCell (p:=⟨M,0,none⟩) rfl a).setCell (p:=⟨M,1,none⟩) rfl b)) (λe=>by have e':C.bN=M:=e;have:=(I.ne C.bN (.inl rfl)).1;have:=h.tc.size;omega)) Jg hz hf,(J.below U).tcs (b_ ((J.below U) 0 _ rfl).1) e3 Xa,Xb,Jy,e1,e2,e3,e4⟩
 obtain⟨y0,f0⟩:=J 0 _ rfl;obtain⟨y1,f1⟩:=J 1 _ rfl;clear h I Jk Jj hM hB Jd Je J hx Ji Y;go_in;go_upto_region 1 with fail;rw[<-Xe.out,<-HM.out];go_upto_region 16 with fail;rw[<-J_.out,<-Jn.out];have x0:=(Jm.out 0 _ rfl).1;have Xn:W1.drew.cell? ⟨B,0,none⟩=some (sV nm):=x0;have Xj:W1.drew.cell? ⟨C.P,2,none⟩=some (.map (some C.bN)):=p2;go_region_held3 (λW=>W.cell? ⟨B,0,none⟩=some (sV nm)/\W.cell? ⟨C.P,2,none⟩=some (.map (some C.bN))/\(Instr.lookup 77 (.map (some C.bN)) (sV nm) false).run prog W=.ok (V (f:Int)) W) (go_simp)
  (first
  | ((with_reducible refine Calls.mono Xc.out ?_);rintro e w2 ⟨rfl,⟨s0,s1,s2⟩,s3,Jf,Jv⟩;have Jt:=ah Jv;have Xd:=ah Jf;obtain⟨z0,g0⟩:=Jf 0 _ rfl;obtain⟨z1,g1⟩:=Jf 1 _ rfl;have e1:jR r=.agg #[.int .i64 ea,.int .i64 eb]:=Xh))
 obtain⟨Xq,Xs,-,Js,Jp,Jo⟩:=Jt;have Xo:W1.drew.heap.size=W1.heap.size:=rfl;have Jz:ak (cL C vO) W0 w2:=(Jh.out.tcs (S:=cL C vO)).drew.trans Jp;have Jr:=ah (cC HC.out HM.out H0.out Jq.out Ju Js Jz (λk hk=>(Jo k hk).imp id (λh=>by have:=Jh.out.size;omega)) r_ Xd.out r (a:=bW r) (b:=cI r) rfl rfl);go_wp2_with fail;obtain⟨t0,t1,hQ⟩:=Jr;exact bodyPost_ret (v:=.agg #[V (bW r),V (cI r)]) (by simp[results,results203,go_sem,t0,t1]) rfl hQ
end
section
variable{C:IC}{w:AT}{vO:BY}{n:Nat}{nd:Nd}
def pR(C:IC)(w:AT)(vO:BY)(us:Nat->BY):rH C w vO nV 0 us:=⟨none,0,rfl,n_,o_,λh=>absurd h o_⟩
def eQ{W:AT}(J:∀k,cL C vO k->k<w.heap.size)(U:w.heap.size<=W.heap.size)(cs:Array BY)(T:GC)(us:Nat->BY)(h:cs.size<=1000)(I:∀i,i<cs.size->cs.toList[i]? =some (us i)):rH C (W.alloc (.cells cs T)) vO (rV W.heap.size cs.size cs.size) cs.size us:=by
 refine⟨_,cs.size,rfl,n_,o_,λ_=>⟨W.heap.size,rfl,i_,λhk=>?_,λi hi=>?_⟩⟩
 ·have:=J _ hk;omega
 ·exact(aH W cs T h i _ (I i hi)).1
def OpC(C:IC)(f:Nat)(x:BY)(A:Nat)(us:Nat->BY):Prop:=∀(w:AT) (vV:Option Nat) (vI vO:BY) (s:ES),IS C w vV vI vO s->Calls prog f #[x] w λe w'=>∃a cp,e=rW (.slice a A cp)/\rH C w' vO (.slice a A cp) A us/\Bl w w'
def BT(v:Int)(us:Nat->BY):OpC C 267 (.agg #[V v]) 0 us:=by
 intro w vV vI vO s I;go_in;go_wp2;go_ret;exact⟨_,_,rfl,pR _ _ _ _,r_.alloc n_ _⟩
def BU(v:GA)(us:Nat->BY):OpC C 268 (.agg #[sV v]) 0 us:=by
 intro w vV vI vO s I;go_in;go_wp2;go_ret;exact⟨_,_,rfl,pR _ _ _ _,r_.alloc n_ _⟩
def DJ(us:Nat->BY):OpC C 275 (.agg #[]) 0 us:=by
 intro w vV vI vO s I;go_in;go_wp2;go_ret;exact⟨_,_,rfl,pR _ _ _ _,r_.alloc n_ _⟩
def wW(U:C.Ok)(nm:GA)(t:GC)(x:BY)(us:Nat->BY)(Y:us 0=.iface t x):OpC C 269 (.agg #[sV nm,.iface t x]) 1 us:=by
 intro w vV vI vO s Z;have J:=λk hk=>(cL.lt U Z k hk).1;have I:=ah (eQ (W:=w.alloc (.cells #[sV nm,.iface t x] 266)) J i_ #[.iface t x] 183 us i_ (λi hi=>by
  have e:i=0:=Fc hi
  subst e;simp[Y]))
 simp only[Bl,GO]at I;go_in;go_wp2;go_ret;exact⟨_,_,rfl,I,(au _ _).alloc i_ _⟩
def DK(Y:C.Ok)(J:Int)(t:GC)(x:BY)(us:Nat->BY)(Z:us 0=.iface t x):OpC C 271 (.agg #[V J,.iface t x]) 1 us:=by
 intro w vV vI vO s h;have U:=λk hk=>(cL.lt Y h k hk).1;have I:=ah (eQ (W:=w.alloc (.cells #[V J,.iface t x] 270)) U i_ #[.iface t x] 183 us i_ (λi hi=>by
  have e:i=0:=Fc hi
  subst e;simp[Z]))
 simp only[Bl,GO]at I;go_in;go_wp2;go_ret;exact⟨_,_,rfl,I,(au _ _).alloc i_ _⟩
def BV(hC:C.Ok)(Y:Int)(t:GC)(x:BY)(I:GC)(J:BY)(us:Nat->BY)(hu:us 0=.iface t x)(Ja:us 1=.iface I J):OpC C 272 (.agg #[V Y,.iface t x,.iface I J]) 2 us:=by
 intro w vV vI vO s h;have Z:=λk hk=>(cL.lt hC h k hk).1;have U:=ah (eQ (W:=w.alloc (.cells #[V Y,.iface t x,.iface I J] 272)) Z i_ #[.iface t x,.iface I J] 183 us i_ (λi hi=>by
  have:i=0∨i=1:=by simp at hi;omega
  rcases this with rfl|rfl
  ·simp[hu]
  ·simp[Ja]))
 simp only[Bl,GO]at U;go_in;go_wp2;go_ret;exact⟨_,_,rfl,U,(au _ _).alloc i_ _⟩
theorem Aq(hC:C.Ok)(nm:ByteArray)(Y:Value)(A:Nat)(us:Nat->Value)(hA:fY C.w0 C.S Y A us):OpC C 270 (.agg #[sV nm,Y]) A us:=by
 intro w vV vI vO s h;obtain⟨a,I,rfl,h1,h2,h3⟩:=hA;have Z:Hid (∀X,Bl w X->rH C X vO (.slice a A I) A us):=λX hX=>by
  refine⟨a,I,rfl,h1,h2,λhp=>?_⟩;obtain⟨B,hB,hS,hc⟩:=h3 hp;obtain⟨q1,U,J⟩:=hC.sS B hS;have Jb:=h.tc.size;refine⟨B,hB,by have:=hX.size;omega,λhk=>?_,λi hi=>?_⟩
  ·rcases hk with hk|hk|hk
   ·exact U hk
   ·exact J hk
   ·have:=(World.ownsRow.lt h.out B hk).1;omega
  ·have e1:w.cell? ⟨B,i,none⟩=C.w0.cell? ⟨B,i,none⟩:=c_ (h.tc.block B q1 (λe=>e.elim U J));exact(hX.cell (p:=⟨B,i,none⟩) (by show B<w.heap.size;omega)).trans (e1.trans (hc i hi))
 go_in;go_wp2;go_ret;exact⟨_,_,rfl,Z _ (au _ _),r_.alloc n_ _⟩
def fL{s:GA}(h:s.size<=n)(I:n<=100000):s.size<=maxLen:=by unfold maxLen;omega
def BW{U:List GA}(J:aS C.t U nd=0)(h:nd.kind=3):∃k,∃h:k<C.t.globals.length,gV C.t.globals nd.name=some k:=by
 obtain⟨-,h2⟩:=qe J h;obtain⟨k,h,I,-⟩:=eK (gs:=C.t.globals) (x:=nd.name) o_;exact⟨k,h,I⟩
theorem wY(J:C.Ok){vV:Option Nat}{vI:BY}{s:ES}(h:IS C w vV vI vO s)(Ji:jd C.t (s.l.map Prod.fst))(hB:aD nd=true)(Jf:aS C.t (s.l.map Prod.fst) nd=0){A:Nat}(hA:arity nd=A){vN:BY}{us:Nat->BY}(hV:FO C.w0 C.S vN nd A us)(h4:nd.kind≠4)(h8:nd.kind≠8)(h9:nd.kind≠9)(Jc:∀i,i<A->∃t x,us i=.iface t x){vv:Nat->Int}{a:Option Addr}{c:Nat}(U:mT C w vO (.slice a n c) (cX A vv))(Jh:∀i,i<A->et (vv i)):
  Calls prog 203 #[pV C.P,vN,.slice a n c] w λx w'=>jm C w vV vO (d7 C.t nd vv s).1 (d7 C.t nd vv s).2 x w':=by
 have Jd:=fL (pW hB) d_;have ar:∀k,nd.kind=k->arity nd=(if k=3∨k=6 then 1 else if k=4 then nd.val else if k=7∨k=8∨k=9 then 2 else 0):=λk I=>by rw[<-I];rfl
 rcases hV with⟨I,rfl⟩|⟨I,rfl⟩|⟨I,rfl⟩|⟨I,-⟩|⟨I,rfl⟩|⟨I,rfl⟩|⟨I,rfl⟩|⟨I,-⟩|⟨I,-⟩
 ·have e:d7 C.t nd vv s=(.val nd.val,s):=by simp[d7,I]
  rw[e];exact Al J h nd.val a n c
 ·have e:d7 C.t nd vv s=(.val (s.rd C.t nd.name),s):=by simp[d7,I]
  rw[e];exact Am J h Ji Jd (qd Jf I) a n c
 ·have Y:A=1:=by have:=ar 3 I;simp at this;omega
  subst Y;obtain⟨t,x,Z⟩:=Jc 0 o_;obtain⟨k,Je,hg⟩:=BW Jf I;rw[show cX 1 vv=[vv 0] by simp[cX]]at U;rw[Z];by_cases hv:0<=vv 0/\vv 0<(s.ws C.t nd.name).length
  ·have e:d7 C.t nd vv s=(.val ((s.ws C.t nd.name).getD (vv 0).toNat 0),s):=by simp only[d7,I];simp[hv]
   rw[e];exact tj J h Jd Je hg U hv
  ·have e:d7 C.t nd vv s=(.out 3,s):=by simp only[d7,I];simp;intro h1;omega
   rw[e];exact rq J h Jd Je hg U hv
 ·exact absurd I h4
 ·cases hi:s.i with
  | nil=>
   have e:d7 C.t nd vv s=(.val 0,s):=by simp[d7,I,hi]
   rw[e];exact An J h hi a n c
  | cons q r=>
   have e:d7 C.t nd vv s=(.val q,{s with i:=r}):=by simp[d7,I,hi]
   rw[e];exact BQ J h hi a n c
 ·have Y:A=1:=by have:=ar 6 I;simp at this;omega
  subst Y;obtain⟨t,x,Z⟩:=Jc 0 o_;rw[show cX 1 vv=[vv 0] by simp[cX]]at U;rw[Z];have e:d7 C.t nd vv s=(.val (kM nd.val (vv 0)),s):=by simp[d7,I]
  rw[e];exact BS J h (by unfold aD at hB;simp[I]at hB;omega) (Jh 0 o_) U
 ·have Y:A=2:=by have:=ar 7 I;simp at this;omega
  subst Y;obtain⟨t,x,Z⟩:=Jc 0 o_;obtain⟨t2,x2,Jg⟩:=Jc 1 o_;rw[show cX 2 vv=[vv 0,vv 1] by simp[cX,range_succ]]at U;rw[Z,Jg];have e:d7 C.t nd vv s=(.val (dZ nd.val (vv 0) (vv 1)),s):=by simp[d7,I]
  rw[e];exact Ao J h U
 ·exact absurd I h8
 ·exact absurd I h9
end
section
variable{C:IC}{w:AT}{vO:BY}
def mT.tcs{w':AT}{J:BY}{vs:List Int}(h:mT C w vO J vs)(U:ak (cL C vO) w w'):mT C w' vO J vs:=by
 obtain⟨a,c,e,h1,h2,h3⟩:=h;refine⟨a,c,e,h1,h2,λhp=>?_⟩;obtain⟨b,Z,Y,I,hc⟩:=h3 hp;exact⟨b,Z,Ft U.size,I,λj hj=>(c_ (a:=⟨b,j,none⟩) (U.block b Y I)).trans (hc j hj)⟩
def FY(t:GC)(x:BY)(f:Nat):Prop:=(∀W:AT,(method 460 t x "loop.example/s01725/impl.operands").run prog W=.ok (f,x) W)/\∀(y:BY) (W:AT),(callFunc f #[y]).run prog W=.ok (.enter f #[y]) W
def rr(hC:C.Ok){Z:Option Nat}{vI:BY}{A j:Nat}{st:Nat->ES}{v:Nat->Int}{c:Int}{s1 s':ES}{r:ER}{us:Nat->BY}(h:IS C w Z vI vO (st 0)){t:GC}{x:BY}{f:Nat}(I:t≠274)(h2:t≠275)(hF:FY t x f)(hO:OpC C f x A us)(hc:c=2∨c=3)
  (Xq:∀(X:AT) (ar:BY),IS C X Z vI vO (st 0)->rH C X vO ar A us->Calls prog 144 #[pV C.P,ar] X λx w'=>rI C X Z vO A st v j c s1 x w')
  (Jg:(j<A/\r=.out c/\s'=s1)∨(j=A/\(st A).u=0/\r=.out 2/\s'=st A)∨(j=A/\0<(st A).u/\∀(X:AT) (vI2 vO2:BY) (a:Option Addr) (n cp:Nat),IS C X Z vI2 vO2 (st A).sp->mT C X vO2 (.slice a n cp) (cX A v)->(st A).n+1000000000*((st A).u:Int)<=100001000000000->Calls prog 203 #[pV C.P,.iface t x,.slice a n cp] X λx w'=>jm C X Z vO2 r s' x w')):
  Calls prog 177 #[pV C.P,.iface t x] w λx w'=>jm C w Z vO r s' x w':=by
 have n1:=λW=>nz W t x I;have n2:=λW=>yp W t x h2;obtain⟨hm,Yc⟩:=hF;obtain⟨W0,M,Xi,hM,Jt,Xe,Ju⟩:=gg w;have Js:=h.below hC Jt;obtain⟨Xk,Ya,H0,HC,X_,Jv,HM,Xy,J_,Je⟩:=h10 (hO W0 Z vI vO (st 0) Js) Js h hC Xi Jt hM Xe Xq Jg;have Jj:¬cL C vO M:=λhk=>by have:=(cL.lt hC h M hk).1;omega
 clear h hC hO Xq Jg Xi Jt hM Xe Js I h2;go_in;go_upto_region 1 with fail;rw[<-X_.o,<-HM.o];go_wp2_with fail;refine Xk.o.mono ?_;rintro e w1 ⟨a,cp,rfl,hL,Jl⟩;obtain⟨Xj,Xw,Jp⟩:=h3 (J_ w1 _ (Ya.o.below HC Jl) hL) (Xy.o.below Jl) Jl;clear hL Jl J_ Xk;go_wp2_with fail;refine Xj.o.mono ?_;rintro e w2 ⟨vI2,vO2,Jx,Xg,Jf⟩;have Ji:aK w2 M [V 0,V 0]:=Xw.o.tcs (Ft Jp.o.size) Jx Jj;have Jr:Hid (ak (cL C vO) W0 w2):=(Jp.o.tcs (S:=cL C vO)).trans Jx;have Jd:Hid (∀q,vO2.ownBlock=some q->vO.ownBlock=some q∨W0.heap.size<=q):=λq hq=>(Xg q hq).imp id (λh=>Ft Jp.o.size);obtain⟨y0,f0⟩:=Ji 0 _ rfl;obtain⟨y1,f1⟩:=Ji 1 _ rfl;have Jy:=ah Ji;clear Jx Xg Ji Xj;rcases Jf with⟨hj,a2,Xt,c2,rfl,J,Jm⟩|⟨hj,rfl,J⟩
 ·obtain⟨Xx,Xv⟩:=h2 J Jm;rcases Je.o with⟨Xp,-⟩|⟨-,hu,Y,e2⟩|⟨-,hu,Xc⟩
  ·omega
  ·obtain⟨Jo,U⟩:=h2 (pP J hu) (cC HC HM H0 Jv Ju J Jr Jd r_ Jy r (a:=3) (b:=0) (by rw[Y];rfl) (by rw[Y];rfl));rw[<-e2]at U;clear J Jm hu Y e2;go_wp2_with fail;refine Jo.o.mono ?_;rintro e w3 ⟨rfl,Xh⟩;rw[Xh];clear Xh;go_wp2_with fail;obtain⟨t0,t1,hQ⟩:=U;exact bodyPost_ret (v:=.agg #[V 3,V 0]) (by simp[results,results177,go_sem,t0,t1]) rfl hQ
  ·obtain⟨Jo,Xu⟩:=h2 (dY HC J hu) Xc;clear J Jm hu Xc;go_wp2_with fail;refine Jo.o.mono ?_;rintro e w3 ⟨rfl,Xf,Jk⟩;have Jc:¬cL C vO2 M:=λhk=>by
    rcases hk with I|I|I
    ·exact Jj (.inl I)
    ·exact Jj (.inr (.inl I))
    ·rcases Jd.o M I with h2|h2
     ·exact Jj (.inr (.inr h2))
     ·omega
   have Xl:=Jy.o.tcs (b_ y0) Jk Jc;have Xz:=ah (Xu w3 vI2 vO2 a2 Xt c2 Xf (Xv.o.tcs Jk) Xx.o.nn.2.1);have Xa:Hid (ak (cL C vO) W0 w3):=cL.next Jr Jk Jd;obtain⟨Xn,Jn⟩:=h2 Xl Jc;have Yb:W0.heap.size<=w3.heap.size:=Xa.o.size;clear Xf Jk Xl y0 y1 f0 f1 Jc;go_wp2_with fail;refine Xz.o.mono ?_;rintro e w4 ⟨Yd,Xs,rfl,Xd,Jz,Xm⟩;have Jh:=Xn.o.tcs (b_ (Xn 0 _ rfl).1) Jz Jn;have Xo:ak (cL C vO) W0 w4:=cL.next Xa Jz Jd;have Xb:∀k,Xs.ownBlock=some k->vO.ownBlock=some k∨W0.heap.size<=k:=λk hk=>by
    rcases Xm k hk with I|I
    ·exact Jd k I
    ·exact .inr o_
   obtain⟨e4,Jw⟩:=q_ (bW r);obtain⟨v4,Jq⟩:=q_ (cI r);rw[show jR r=.agg #[V e4,V v4] by rw[Jw,Jq];rfl];have U:=ah (cC HC HM H0 Jv Ju Xd Xo Xb r_ Jh r Jw.symm Jq.symm);clear Xd Jz Xo Xm Xb Jw Jq;obtain⟨y0,f0⟩:=Jh 0 _ rfl;obtain⟨y1,f1⟩:=Jh 1 _ rfl;clear Jh;go_wp2_with fail;obtain⟨t0,t1,hQ⟩:=U;exact bodyPost_ret (v:=.agg #[V e4,V v4]) (by simp[results,results177,go_sem,t0,t1]) rfl hQ
 ·have Xr:((c+1) != 0)=true:=by simp;omega
  rcases Je.o with⟨-,Y,e2⟩|⟨Xp,-⟩|⟨Xp,-⟩
  ·have U:=ah (cC HC HM H0 Jv Ju J Jr Jd r_ Jy r (a:=c+1) (b:=0) (by rw[Y];rfl) (by rw[Y];rfl));rw[<-e2]at U;generalize c+1=c1 at U Xr⊢;clear J Y e2;go_wp2_with fail;obtain⟨t0,t1,hQ⟩:=U;exact bodyPost_ret (v:=.agg #[V c1,V 0]) (by simp[results,results177,go_sem,t0,t1]) rfl hQ
  ·omega
  ·omega
end
section
variable{C:IC}{w:AT}{vV:Option Nat}{vI vO xx xy:BY}{s s':ES}{r:ER}{tx ty:GC}
def wZ(Z:C.Ok)(h:IS C w vV vI vO s)(Jq:∀X,IS C X vV vI vO s->Calls prog 202 #[pV C.P,.iface tx xx,.iface ty xy,.bool true] X λx w'=>jm C X vV vO r s' x w'):
  Calls prog 177 #[pV C.P,.iface 274 (.agg #[.iface tx xx,.iface ty xy])] w λx w'=>jm C w vV vO r s' x w':=by
 obtain⟨W0,W1,M,B,Jh,Jf,hM,hB,Jk,Jo,hm,hx,Ju,Jj,Jw,Xa,Jy,Xd,Xb⟩:=dG Z h #[.iface tx xx,.iface ty xy] 274 i_;obtain⟨H0,HC,Js,Jx,HM,Jt,Jv,Jp,Jl,Je,Jz⟩:=h11 h Z Jh Jf hM hB Jk Jo hm hx (Jq W1 Jj);have q1:=se;clear h Z Jq Jh Jf hM hB Jk Jo hm hx Ju Jj;have x0:=(Je 0 _ rfl).1;have x1:=(Je 1 _ rfl).1;go_in;go_upto_region 1 with fail;rw[<-Js.o,<-HM.o];go_upto_region 4 with fail;rw[<-Jx.o,<-Jt.o];go_wp2_with fail;refine Jz.o.mono ?_;rintro e w4 ⟨Xc,J_,rfl,Jn,U,Ji⟩;have I:=Jl.o.tcs (b_ (Jl 0 _ rfl).1) U Jy;have Jm:ak (cL C vO) W0 w4:=(Jp.o.tcs (S:=cL C vO)).trans U;have Jg:∀k,J_.ownBlock=some k->vO.ownBlock=some k∨W0.heap.size<=k:=λk hk=>(Ji k hk).imp id (λh=>Ft Jp.o.size);obtain⟨e4,J⟩:=q_ (bW r);obtain⟨v4,Y⟩:=q_ (cI r);rw[show jR r=.agg #[V e4,V v4] by rw[J,Y];rfl];have Jr:=ah (cC HC HM H0 Jv Jw Jn Jm Jg r_ I r J.symm Y.symm);clear Jn U Jm Ji Jg J Y x0 x1;obtain⟨y0,f0⟩:=I 0 _ rfl;obtain⟨y1,f1⟩:=I 1 _ rfl;clear I;go_wp2_with fail;obtain⟨t0,t1,hQ⟩:=Jr;exact bodyPost_ret (v:=.agg #[V e4,V v4]) (by simp[results,results177,go_sem,t0,t1]) rfl hQ
def Ar(Z:C.Ok)(h:IS C w vV vI vO s)(Jq:∀X,IS C X vV vI vO s->Calls prog 202 #[pV C.P,.iface tx xx,.iface ty xy,.bool false] X λx w'=>jm C X vV vO r s' x w'):
  Calls prog 177 #[pV C.P,.iface 275 (.agg #[.iface tx xx,.iface ty xy])] w λx w'=>jm C w vV vO r s' x w':=by
 obtain⟨W0,W1,M,B,Jh,Jf,hM,hB,Jk,Jo,hm,hx,Ju,Jj,Jw,Xa,Jy,Xd,Xb⟩:=dG Z h #[.iface tx xx,.iface ty xy] 275 i_;obtain⟨H0,HC,Js,Jx,HM,Jt,Jv,Jp,Jl,Je,Jz⟩:=h11 h Z Jh Jf hM hB Jk Jo hm hx (Jq W1 Jj);have q1:=λW v=>nz W 275 v d_;have q2:=u_;clear h Z Jq Jh Jf hM hB Jk Jo hm hx Ju Jj;have x0:=(Je 0 _ rfl).1;have x1:=(Je 1 _ rfl).1;go_in;go_upto_region 1 with fail;rw[<-Js.o,<-HM.o];go_upto_region 7 with fail;rw[<-Jx.o,<-Jt.o];go_wp2_with fail;refine Jz.o.mono ?_;rintro e w4 ⟨Xc,J_,rfl,Jn,U,Ji⟩;have I:=Jl.o.tcs (b_ (Jl 0 _ rfl).1) U Jy;have Jm:ak (cL C vO) W0 w4:=(Jp.o.tcs (S:=cL C vO)).trans U;have Jg:∀k,J_.ownBlock=some k->vO.ownBlock=some k∨W0.heap.size<=k:=λk hk=>(Ji k hk).imp id (λh=>Ft Jp.o.size);obtain⟨e4,J⟩:=q_ (bW r);obtain⟨v4,Y⟩:=q_ (cI r);rw[show jR r=.agg #[V e4,V v4] by rw[J,Y];rfl];have Jr:=ah (cC HC HM H0 Jv Jw Jn Jm Jg r_ I r J.symm Y.symm);clear Jn U Jm Ji Jg J Y x0 x1;obtain⟨y0,f0⟩:=I 0 _ rfl;obtain⟨y1,f1⟩:=I 1 _ rfl;clear I;go_wp2_with fail;obtain⟨t0,t1,hQ⟩:=Jr;exact bodyPost_ret (v:=.agg #[V e4,V v4]) (by simp[results,results177,go_sem,t0,t1]) rfl hQ
def DL(t:GC)(x:BY)(f:Nat)(h1:∀W:AT,(method 460 t x "loop.example/s01725/impl.operands").run prog W=.ok (f,x) W) (h2:∀(y:BY) (W:AT),(callFunc f #[y]).run prog W=.ok (.enter f #[y]) W):FY t x f:=⟨h1,h2⟩
def As(Y:C.Ok){I:Nd}{A:Nat}{vN:BY}{us:Nat->BY}(hA:arity I=A)(hV:FO C.w0 C.S vN I A us)(h8:I.kind≠8)(h9:I.kind≠9)(Z:∀i,i<A->∃t x,us i=.iface t x):∃t x f,vN=.iface t x/\t≠274/\t≠275/\FY t x f/\OpC C f x A us:=by
 have U:∀k,I.kind=k->arity I=(if k=3∨k=6 then 1 else if k=4 then I.val else if k=7∨k=8∨k=9 then 2 else 0):=λk h=>by rw[<-h];rfl
 rcases hV with⟨h,rfl⟩|⟨h,rfl⟩|⟨h,rfl⟩|⟨h,Jd,rfl,Jc⟩|⟨h,rfl⟩|⟨h,rfl⟩|⟨h,rfl⟩|⟨h,-⟩|⟨h,-⟩
 ·obtain rfl:A=0:=by have:=U 1 h;simp at this;omega
  exact⟨_,_,267,rfl,d_,d_,DL _ _ _ (λW=>by kernel_rfl) (λy W=>by kernel_rfl),BT I.val us⟩
 ·obtain rfl:A=0:=by have:=U 2 h;simp at this;omega
  exact⟨_,_,268,rfl,d_,d_,DL _ _ _ (λW=>by kernel_rfl) (λy W=>by kernel_rfl),BU I.name us⟩
 ·obtain rfl:A=1:=by have:=U 3 h;simp at this;omega
  obtain⟨t,x,J⟩:=Z 0 o_;rw[J];exact⟨_,_,269,rfl,d_,d_,DL _ _ _ (λW=>by kernel_rfl) (λy W=>by kernel_rfl),wW Y I.name t x us J⟩
 ·exact⟨_,_,270,rfl,d_,d_,DL _ _ _ (λW=>by kernel_rfl) (λy W=>by kernel_rfl),Aq Y I.name Jd A us Jc⟩
 ·obtain rfl:A=0:=by have:=U 5 h;simp at this;omega
  exact⟨_,_,275,rfl,d_,d_,DL _ _ _ (λW=>by kernel_rfl) (λy W=>by kernel_rfl),DJ us⟩
 ·obtain rfl:A=1:=by have:=U 6 h;simp at this;omega
  obtain⟨t,x,J⟩:=Z 0 o_;rw[J];exact⟨_,_,271,rfl,d_,d_,DL _ _ _ (λW=>by kernel_rfl) (λy W=>by kernel_rfl),DK Y I.val t x us J⟩
 ·obtain rfl:A=2:=by have:=U 7 h;simp at this;omega
  obtain⟨t,x,J⟩:=Z 0 o_;obtain⟨t2,x2,Jb⟩:=Z 1 o_;rw[J,Jb];exact⟨_,_,272,rfl,d_,d_,DL _ _ _ (λW=>by kernel_rfl) (λy W=>by kernel_rfl),BV Y I.val t x t2 x2 us J Jb⟩
 ·exact absurd h h8
 ·exact absurd h h9
def Au(C:IC)(hC:C.Ok)(n:Nat)(IH:DH C n)(Jz:FX C n):DH C (n+1):=by
 intro e s r s' hE Ji Jj Jg w vV vI vO vN h hT;by_cases h89:(aB e).kind=8∨(aB e).kind=9
 ·obtain⟨b,J,-⟩:=Ak hE h89;obtain⟨us,Jc,hV⟩:=hT.kids Jg J;have Jk:∀b',Cut e 2 b'->Tv C.w0 C.S (us 0) (kid e b' 0)/\Tv C.w0 C.S (us 1) (kid e b' 1):=λb' hc'=>by
   obtain⟨-,hb⟩:=hc'.one J;have e1:∀i,i<2->kid e b' i=kid e b i:=λi hi=>by unfold kid;rw[hb i o_,hb (i+1) o_]
   rw[e1 0 o_,e1 1 o_];exact⟨Jc 0 o_,Jc 1 o_⟩
  obtain⟨tx,xx,hx⟩:=(Jc 0 o_).isI;obtain⟨ty,xy,hy⟩:=(Jc 1 o_).isI;rw[hx,hy]at Jk;rcases hV with⟨I,-⟩|⟨I,-⟩|⟨I,-⟩|⟨I,-⟩|⟨I,-⟩|⟨I,-⟩|⟨I,-⟩|⟨I,rfl⟩|⟨I,rfl⟩
  ·omega
  ·omega
  ·omega
  ·omega
  ·omega
  ·omega
  ·omega
  ·rw[hx,hy];exact wZ hC h (λX hX=>mF hC IH hE (.inl ⟨I,rfl⟩) Ji Jj Jg hX Jk)
  ·rw[hx,hy];exact Ar hC h (λX hX=>mF hC IH hE (.inr ⟨I,rfl⟩) Ji Jj Jg hX Jk)
 ·have h8:(aB e).kind≠8:=λh=>h89 (.inl h);have h9:(aB e).kind≠9:=λh=>h89 (.inr h);obtain⟨A,b,st,v,j,J,Jv,hj,Jh,Jl⟩:=qJ hE h8 h9;subst Jv;obtain⟨A',b',Je,Jm⟩:=gZ Jg;obtain⟨rfl,Jp⟩:=J.one Je;have ek:∀i,i<A->kid e b i=kid e b' i:=λi hi=>by unfold kid;rw[Jp i o_,Jp (i+1) o_]
  obtain⟨us,Jc,hV⟩:=hT.kids Jg J;have Jr:∀i,i<A->∃t x,us i=.iface t x:=λi hi=>(Jc i hi).isI;obtain⟨t,x,f,rfl,t1,t2,hF,hO⟩:=As hC J.ar hV h8 h9 Jr;have Jb:=J.root_good;have Ju:aB e∈e:=jY J.len;obtain⟨c,s1,hc,Jf,Jd⟩:∃c s1,(c=2∨c=3)/\BP C n A (λi=>kid e b i) st v j c s1/\((j<A/\r=.out c/\s'=s1)∨(j=A/\(st A).u=0/\r=.out 2/\s'=st A)∨(j=A/\0<(st A).u/\(((aB e).kind≠4/\r=(d7 C.t (aB e) v (st A).sp).1/\s'=(d7 C.t (aB e) v (st A).sp).2)∨((aB e).kind=4/\∃f,bO C.t.funcs (aB e).name=some f/\Ev C.t C.fr n (.c f (cX A v)) (st A).sp r s')))):=by
   have mk:∀c s1,(j<A->Ev C.t C.fr n (.e (kid e b j)) (st j) (.out c) s1)->BP C n A (λi=>kid e b i) st v j c s1:=λc s1 he=>⟨hj,Jh,he,λi hi=>Ji.kid,λi hi=>by show aP (kid e b i)=true;rw[ek i hi];exact Jm i hi,Ft J.arA⟩;rcases Jl with⟨g1,c,Z,U⟩|⟨g1,Z,U,g4⟩|⟨g1,Z,U,g4,g5⟩|⟨g1,Z,U,g4⟩
   ·exact⟨c,s',U.outc c rfl,mk c s' (λ_=>U),.inl ⟨g1,Z,rfl⟩⟩
   ·exact⟨2,s',.inl rfl,mk 2 s' (λh=>by omega),.inr (.inl ⟨g1,Z,U,g4⟩)⟩
   ·exact⟨2,s',.inl rfl,mk 2 s' (λh=>by omega),.inr (.inr ⟨g1,Z,.inl ⟨U,g4,g5⟩⟩)⟩
   ·exact⟨2,s',.inl rfl,mk 2 s' (λh=>by omega),.inr (.inr ⟨g1,Z,.inr ⟨U,g4⟩⟩)⟩
  refine rr hC h t1 t2 hF hO hc (λX ar hX hL=>mE hC IH Jf hc Jj hX hL Jc) ?_;rcases Jd with g|g|⟨rfl,Z,U⟩
  ·exact .inl g
  ·exact .inr (.inl g)
  ·refine .inr (.inr ⟨rfl,Z,λX vI2 vO2 a m cp hX hA hnb=>?_⟩);obtain⟨J_,Jq,Js⟩:=Jf.l h.ok j n_;have Jn:aS C.t ((st j).sp.l.map Prod.fst) (aB e)=0:=by
    show aS C.t ((st j).l.map Prod.fst) _=0;rw[Jq];exact Ji _ Ju
   rcases U with⟨h4,e1,e2⟩|⟨h4,f2,Jt,Jx⟩
   ·rw[e1,e2];exact wY hC hX (by show jd C.t ((st j).l.map Prod.fst);rw[Jq];exact Jj) Jb Jn J.ar hV h4 h8 h9 Jr hA Js
   ·have Jy:=Jz f2 (cX j v) (st j).sp r s' Jx (λhf=>by
     obtain⟨f3,q1,q2⟩:=jZ Jn h4;rw[Jt]at q1;cases q1
     have Jo:=J.ar;simp only[arity,h4]at Jo;simp only[List.getD,GH hf,Option.getD_some]at q2;rw[gD];simp at Jo;omega) (λy hy=>by
     obtain⟨k,I,rfl⟩:=mem_map.1 hy;exact Js k (mem_range.1 I)) (by
     have e1:(((st j).sp.u:Nat):Int)+1=((st j).u:Int):=by simp only[ES.sp];omega
     rw[e1];exact hnb)
    rcases hV with⟨I,-⟩|⟨I,-⟩|⟨I,-⟩|⟨I,Xa,e3,Jw⟩|⟨I,-⟩|⟨I,-⟩|⟨I,-⟩|⟨I,-⟩|⟨I,-⟩
    ·omega
    ·omega
    ·omega
    ·obtain⟨ra,rc,rfl,-⟩:=Jw;rw[e3];exact wV hC hX (fL (pW Jb) d_) Jt hA (λY hY hAY=>Jy Y vV vI2 vO2 _ hY hAY)
    ·omega
    ·omega
    ·omega
    ·omega
    ·omega
end
section
variable{t:Tr}{fr:List Int}{n b:Nat}{s s':ES}{r:ER}{C:IC}{w w1 w2:AT}{vO:BY}
def mU(C:IC)(w:AT)(b:Nat)(vO:BY)(ec vc:Int)(s':ES)(x:Ending)(w':AT):Prop:=∃vI' vO',x=rW (.agg #[V ec,V vc])/\IS C w' (some b) vI' vO' s'/\ak (dt C (some b) vO) w w'/\∀k,vO'.ownBlock=some k->vO.ownBlock=some k∨w.heap.size<=k
def Ff(C:IC)(n:Nat):Prop:=∀(L:List (BY×List St)) (z:ES) (r:ER) (z':ES),Ev C.t C.fr n (.bl (dd L)) z r z'->kX C.t (z.l.map Prod.fst) (dd L)->jd C.t (z.l.map Prod.fst)->∀(w:AT) (b:Nat) (vI vO vB:BY),IS C w (some b) vI vO z->pT C.w0 C.S vB L->Calls prog 70 #[pV C.P,vB] w λx w'=>mU C w b vO (bW r) (cI r) z' x w'
def Lk(t:Tr)(fr:List Int)(n:Nat)(s:St)(a b:List St)(z:ES)(ec vc:Int)(z':ES):Prop:=
 (z.u=0/\ec=3/\vc=0/\z'=z)∨(0<z.u /\
  ((s.kind≠5/\∃r,Ev t fr (n+1) (.p s a b) z.sp r z'/\ec=bW r/\vc=cI r) ∨
  (s.kind=5/\((∃c,Ev t fr n (.e s.e) z.sp (.out c) z'/\ec=c+1/\vc=0)∨(Ev t fr n (.e s.e) z.sp (.val 0) z'/\ec=0/\vc=0)∨∃v z1 r,Ev t fr n (.e s.e) z.sp (.val v) z1/\v≠0/\Ev t fr n (.bl a) z1 r z'/\((r=.on/\ec=1/\vc=0)∨(r ≠ .on/\ec=bW r/\vc=cI r))))))
def ru(t:Tr)(fr:List Int)(n:Nat)(s:St)(a b:List St)(z:ES)(r:ER)(z':ES):Prop:=(z.u=0/\r=.out 2/\z'=z)∨(0<z.u/\Ev t fr n (.p s a b) z.sp r z')
theorem lk{k:Tk}(h:Ev t fr n k s r s'):bW r≠1:=by
 cases r using ER.cs with
 | val v=>exact(by decide:(0:Int)≠1)
 | on=>decide
 | ret v=>exact(by decide:(2:Int)≠1)
 | out c=>rcases h.outc c rfl with e|e <;> (subst e;decide)
theorem ru.look{s:St}{a b:List St}{z:ES}{J:ES}(h:ru t fr n s a b z r J):∃ec vc z2,Lk t fr n s a b z ec vc z2/\((ec≠1/\ec=bW r/\vc=cI r/\z2=J)∨(ec=1/\z2.u<z.u/\ru t fr n s a b z2 r J)):=by
 rcases h with⟨I,rfl,rfl⟩|⟨I,h2⟩
 ·exact⟨3,0,_,.inl ⟨I,rfl,rfl,rfl⟩,.inl ⟨d_,rfl,rfl,rfl⟩⟩
 ·by_cases hk:s.kind=5
  ·have Y:=lk h2;have Z:z.sp.u<z.u:=by simp only[ES.sp];omega
   have U:∀ {v z1 z2},Ev t fr n (.e s.e) z.sp (.val v) z1->Ev t fr n (.bl a) z1 .on z2->z2.u<z.u:=λ{v z1 z2} g1 g2=>by
    have:=g1.ou.1
    have:=g2.ou.1
    omega
   cases n with
   | zero=>first | cases h2 using Ev_i | cases h2
   | succ n=>
   cases h2 using Ev_i with
   | pbad m _ _ _ _ c _ g1=>exact⟨c+1,0,_,.inr ⟨I,.inr ⟨hk,.inl ⟨c,g1.up,rfl,rfl⟩⟩⟩,.inl ⟨Y,rfl,rfl,rfl⟩⟩
   | whno m _ _ _ _ _ g1 g2=>exact⟨0,0,_,.inr ⟨I,.inr ⟨hk,.inr (.inl ⟨g2.up,rfl,rfl⟩)⟩⟩,.inl ⟨d_,rfl,rfl,rfl⟩⟩
   | whn m _ _ _ _ v z1 _ _ g1 g2 g3 g4 g5=>exact⟨_,_,_,.inr ⟨I,.inr ⟨hk,.inr (.inr ⟨v,z1,r,g2.up,g3,g4.up,.inr ⟨g5,rfl,rfl⟩⟩)⟩⟩,.inl ⟨Y,rfl,rfl,rfl⟩⟩
   | whdr m _ _ _ _ v z1 _ g1 g2 g3 g4 g5=>exact⟨1,0,_,.inr ⟨I,.inr ⟨hk,.inr (.inr ⟨v,z1,.on,g2.up,g3,g4.up,.inl ⟨rfl,rfl,rfl⟩⟩)⟩⟩,.inr ⟨rfl,U g2.up g4.up,.inl ⟨g5,rfl,rfl⟩⟩⟩
   | whag m _ _ _ _ v z1 z2 _ _ g1 g2 g3 g4 g5 g6=>exact⟨1,0,_,.inr ⟨I,.inr ⟨hk,.inr (.inr ⟨v,z1,.on,g2.up,g3,g4.up,.inl ⟨rfl,rfl,rfl⟩⟩)⟩⟩,.inr ⟨rfl,U g2.up g4.up,.inr ⟨g5,g6.up⟩⟩⟩
   | _=>omega
  ·exact⟨_,_,_,.inr ⟨I,.inl ⟨hk,r,h2.up,rfl,rfl⟩⟩,.inl ⟨lk h2,rfl,rfl,rfl⟩⟩
def dt.lt(hC:C.Ok){vI:BY}(h:IS C w (some b) vI vO s):∀k,dt C (some b) vO k->k<w.heap.size:=λk hk=>by
 rcases hk with hk|hk
 ·exact(cL.lt hC h k hk).1
 ·cases hk
  rcases h.var with⟨e1,-⟩|⟨q,n,D,e1,h2,-⟩
  ·cases e1
  ·cases e1;exact h2.lt
def dt.next{vO1:BY}(h1:ak (dt C (some b) vO) w w1)(h2:ak (dt C (some b) vO1) w1 w2)(ho:∀k,vO1.ownBlock=some k->vO.ownBlock=some k∨w.heap.size<=k):ak (dt C (some b) vO) w w2:=
 h1.next h2 λk hk=>by
  rcases hk with hk|hk
  ·rcases hk with rfl|hk|hk
   ·exact .inl (.inl (.inl rfl))
   ·exact .inl (.inl (.inr (.inl hk)))
   ·rcases ho k hk with h|h
    ·exact .inl (.inl (.inr (.inr h)))
    ·exact .inr h
  ·exact .inl (.inr hk)
def dt.of{vV:Option Nat}(h:ak (cL C vO) w w1):ak (dt C vV vO) w w1:=h.mono λk hk=>.inl hk
theorem dN(I:C.Ok){W0 w3:World}{q:Nat}{Je Jb U:Value}{s0 s2:ES}{M:Nat}(hM:w.heap.size<=M)(J:IS C w (some q) Je vO s0)(Jc:Below w.heap.size w W0)(Jf:M<W0.heap.size)(h:IS C w2 (some q) Jb U s2)(ht:ak (dt C (some q) vO) W0 w2)(ho:∀k,U.ownBlock=some k->vO.ownBlock=some k∨W0.heap.size<=k)(Jd:Below w2.heap.size w2 w3){x0 x1:Value}(hf:aK w3 M [x0,x1])(a b:Int):
  ((w3.setCell ⟨M,0,none⟩ (V a)).setCell ⟨M,1,none⟩ (V b)).cell? ⟨M,0,none⟩=some (V a)/\((w3.setCell ⟨M,0,none⟩ (V a)).setCell ⟨M,1,none⟩ (V b)).cell? ⟨M,1,none⟩=some (V b)/\mU C w q vO a b s2 (rW (.agg #[V a,V b])) ((w3.setCell ⟨M,0,none⟩ (V a)).setCell ⟨M,1,none⟩ (V b)):=by
 have Z:=(hf.set 0 (V a)).set 1 (V b);have Y:ak (λk=>k=M) w3 ((w3.setCell ⟨M,0,none⟩ (V a)).setCell ⟨M,1,none⟩ (V b)):=(((ak.refl (λk=>k=M) w3).setCell (p:=⟨M,0,none⟩) rfl _).setCell (p:=⟨M,1,none⟩) rfl _);obtain⟨p1,p2,p3⟩:=J.hi I;refine⟨(Z 0 _ rfl).1,(Z 1 _ rfl).1,Jb,U,rfl,(h.below I Jd).past I Y (λk hk=>?_),?_,λk hk=>?_⟩
 ·have e:k=M:=hk;subst e;refine⟨o_,λe=>?_,λe=>?_⟩
  ·have:=dt.lt I J k (.inr e);omega
  ·rcases ho k e with h1|h1
   ·have:=(World.ownsRow.lt J.out k h1).2;omega
   ·omega
 ·exact(((Jc.tcs (S:=dt C (some q) vO)).trans ht).of_below Jd).next Y (λk hk=>.inr (by have e:k=M:=hk;omega))
 ·rcases ho k hk with h1|h1
  ·exact .inl h1
  ·exact .inr (by have:=Jc.size;omega)
def mU.drew(hC:C.Ok){w':AT}{J I:Int}{x:Ending}(h:mU C w b vO J I s' x w'):mU C w b vO J I s' x w'.drew:=by
 obtain⟨U,Z,Y,h2,h3,h4⟩:=h;exact⟨U,Z,Y,h2.below hC (r_.drew),h3.drew,h4⟩
def Av(U:C.Ok)(nm:GA)(t:GC)(x:BY)(us:Nat->BY)(Y:us 0=.iface t x):OpC C 260 (.agg #[sV nm,.iface t x]) 1 us:=by
 intro w vV vI vO s Z;have J:=λk hk=>(cL.lt U Z k hk).1;have I:=ah (eQ (W:=w.alloc (.cells #[sV nm,.iface t x] 213)) J i_ #[.iface t x] 183 us i_ (λi hi=>by
  have e:i=0:=Fc hi
  subst e;simp[Y]))
 simp only[Bl,GO]at I;go_in;go_wp2;go_ret;exact⟨_,_,rfl,I,(au _ _).alloc i_ _⟩
def BX(U:C.Ok)(nm:GA)(t:GC)(x:BY)(us:Nat->BY)(Y:us 0=.iface t x):OpC C 261 (.agg #[sV nm,.iface t x]) 1 us:=by
 intro w vV vI vO s Z;have J:=λk hk=>(cL.lt U Z k hk).1;have I:=ah (eQ (W:=w.alloc (.cells #[sV nm,.iface t x] 214)) J i_ #[.iface t x] 183 us i_ (λi hi=>by
  have e:i=0:=Fc hi
  subst e;simp[Y]))
 simp only[Bl,GO]at I;go_in;go_wp2;go_ret;exact⟨_,_,rfl,I,(au _ _).alloc i_ _⟩
def w_(Z:C.Ok)(nm:GA)(t:GC)(x:BY)(I:GC)(J:BY)(us:Nat->BY)(hu:us 0=.iface t x)(Ja:us 1=.iface I J):OpC C 262 (.agg #[sV nm,.iface t x,.iface I J]) 2 us:=by
 intro w vV vI vO s h;have Y:=λk hk=>(cL.lt Z h k hk).1;have U:=ah (eQ (W:=w.alloc (.cells #[sV nm,.iface t x,.iface I J] 216)) Y i_ #[.iface t x,.iface I J] 183 us i_ (λi hi=>by
  have:i=0∨i=1:=by simp at hi;omega
  rcases this with rfl|rfl
  ·simp[hu]
  ·simp[Ja]))
 simp only[Bl,GO]at U;go_in;go_wp2;go_ret;exact⟨_,_,rfl,U,(au _ _).alloc i_ _⟩
def DM(hC:C.Ok)(Y:Option Addr)(Z c1:Nat)(U:Option Addr)(n2 J:Nat)(t:GC)(x:BY)(us:Nat->BY)(hu:us 0=.iface t x):OpC C 263 (.agg #[.iface t x,.slice Y Z c1,.slice U n2 J]) 1 us:=by
 intro w vV vI vO s h;have hn:=λk hk=>(cL.lt hC h k hk).1;have I:=ah (eQ (W:=w.alloc (.cells #[.iface t x,.slice Y Z c1,.slice U n2 J] 218)) hn i_ #[.iface t x] 183 us i_ (λi hi=>by
  have e:i=0:=Fc hi
  subst e;simp[hu]))
 simp only[Bl,GO]at I;go_in;go_wp2;go_ret;exact⟨_,_,rfl,I,(au _ _).alloc i_ _⟩
def xe(hC:C.Ok)(J:Option Addr)(U Y:Nat)(t:GC)(x:BY)(us:Nat->BY)(hu:us 0=.iface t x):OpC C 264 (.agg #[.iface t x,.slice J U Y]) 1 us:=by
 intro w vV vI vO s h;have Z:=λk hk=>(cL.lt hC h k hk).1;have I:=ah (eQ (W:=w.alloc (.cells #[.iface t x,.slice J U Y] 220)) Z i_ #[.iface t x] 183 us i_ (λi hi=>by
  have e:i=0:=Fc hi
  subst e;simp[hu]))
 simp only[Bl,GO]at I;go_in;go_wp2;go_ret;exact⟨_,_,rfl,I,(au _ _).alloc i_ _⟩
def tm(U:C.Ok)(t:GC)(x:BY)(us:Nat->BY)(Y:us 0=.iface t x):OpC C 258 (.agg #[.iface t x]) 1 us:=by
 intro w vV vI vO s Z;have J:=λk hk=>(cL.lt U Z k hk).1;have I:=ah (eQ (W:=w.alloc (.cells #[.iface t x] 185)) J i_ #[.iface t x] 183 us i_ (λi hi=>by
  have e:i=0:=Fc hi
  subst e;simp[Y]))
 simp only[Bl,GO]at I;go_in;go_wp2;go_ret;exact⟨_,_,rfl,I,(au _ _).alloc i_ _⟩
def BZ(U:C.Ok)(t:GC)(x:BY)(us:Nat->BY)(Y:us 0=.iface t x):OpC C 265 (.agg #[.iface t x]) 1 us:=by
 intro w vV vI vO s Z;have J:=λk hk=>(cL.lt U Z k hk).1;have I:=ah (eQ (W:=w.alloc (.cells #[.iface t x] 221)) J i_ #[.iface t x] 183 us i_ (λi hi=>by
  have e:i=0:=Fc hi
  subst e;simp[Y]))
 simp only[Bl,GO]at I;go_in;go_wp2;go_ret;exact⟨_,_,rfl,I,(au _ _).alloc i_ _⟩
def Aw(U:C.Ok)(t:GC)(x:BY)(us:Nat->BY)(Y:us 0=.iface t x):OpC C 266 (.agg #[.iface t x]) 1 us:=by
 intro w vV vI vO s Z;have J:=λk hk=>(cL.lt U Z k hk).1;have I:=ah (eQ (W:=w.alloc (.cells #[.iface t x] 222)) J i_ #[.iface t x] 183 us i_ (λi hi=>by
  have e:i=0:=Fc hi
  subst e;simp[Y]))
 simp only[Bl,GO]at I;go_in;go_wp2;go_ret;exact⟨_,_,rfl,I,(au _ _).alloc i_ _⟩
end
section
variable{C:IC}{s:St}{a b:List St}{sv:BY}
def Gh(t:Tr)(fr:List Int)(n:Nat)(s:St)(a b:List St)(v:Nat->Int)(y:ES)(ec vc:Int)(z':ES):Prop:=
 (s.kind=1/\ec=0/\vc=0/\z'={y with l:=y.l++[(s.name,v 0)]}) ∨
 (s.kind=2/\ec=0/\vc=0/\z'=y.wr t s.name (v 0)) ∨
 (s.kind=3/\((¬(0<=v 0/\v 0<(y.ws t s.name).length)/\ec=4/\vc=0/\z'=y)∨((0<=v 0/\v 0<(y.ws t s.name).length)/\ec=0/\vc=0/\z'=y.st t s.name (v 0).toNat (v 1)))) ∨
 (s.kind=4/\∃r,ec=bW r/\vc=cI r/\((v 0≠0/\Ev t fr n (.bl a) y r z')∨(v 0=0/\Ev t fr n (.bl b) y r z'))) ∨
 (s.kind=5/\((v 0=0/\ec=0/\vc=0/\z'=y)∨(v 0≠0/\∃r,Ev t fr n (.bl a) y r z'/\((r=.on/\ec=1/\vc=0)∨(r ≠ .on/\ec=bW r/\vc=cI r))))) ∨
 (s.kind=6/\ec=2/\vc=v 0/\z'=y) ∨
 (s.kind=7/\ec=0/\vc=0/\z'={y with o:=y.o++[v 0]}) ∨
 (s.kind=8/\ec=0/\vc=0/\z'=y)
def eS(s:St):Nat:=if s.kind=3 then 2 else 1
def xh(s:St)(i:Nat):List Nd:=if i=0 then s.e else s.f
theorem Lk.ops{n:Nat}{z:ES}{ec vc:Int}{z':ES}(h:Lk C.t C.fr n s a b z ec vc z')(hu:0<z.u)(hk:yi C.t (z.l.map Prod.fst) s)(hs:stmtB s=true):∃st v j c s1,st 0=z.sp/\BP C n (eS s) (xh s) st v j c s1/\(c=2∨c=3)/\((j<eS s/\ec=c+1/\vc=0/\z'=s1)∨(j=eS s/\Gh C.t C.fr n s a b v (st (eS s)) ec vc z')):=by
 obtain⟨Jh,Jf,Jg⟩:=iE hs;have Y:s.kind≠3->eS s=1:=λh=>by unfold eS;rw[if_neg h]
 have Jd:s.kind=3->eS s=2:=λh=>by unfold eS;rw[if_pos h]
 have Ja:∀(st:Nat->ES) (v:Nat->Int) (j:Nat) (c:Int) (s1:ES),st 0=z.sp->j<=eS s->(∀i,i<j->Ev C.t C.fr n (.e (xh s i)) (st i) (.val (v i)) (st (i+1)))->(j<eS s->Ev C.t C.fr n (.e (xh s j)) (st j) (.out c) s1)->BP C n (eS s) (xh s) st v j c s1:=λst v j c s1 e0 hj I J=>by
  refine⟨hj,I,J,λi hi=>?_,λi hi=>?_,by unfold eS;split <;> omega⟩
  ·rw[e0];show rU C.t (z.l.map Prod.fst) _;unfold xh;split
   ·exact hk.e
   ·exact hk.f
  ·unfold xh;split
   ·exact Jf
   ·refine Jg ?_;unfold eS at hi;by_cases h3:s.kind=3
    ·exact h3
    ·rw[if_neg h3]at hi;omega
 have Z:∀ {x:Int} {z1:ES},s.kind≠3->Ev C.t C.fr n (.e s.e) z.sp (.val x) z1->BP C n (eS s) (xh s) (λi=>if i=0 then z.sp else z1) (λ_=>x) (eS s) 2 z1:=λ{x z1} h3 g=>by
  refine Ja _ _ _ _ _ rfl n_ (λi hi=>?_) (λh=>by omega);rw[Y h3]at hi;obtain rfl:i=0:=by omega
  exact g
 have Je:∀ {c:Int} {z1:ES},Ev C.t C.fr n (.e s.e) z.sp (.out c) z1->∃st v j c' s1,st 0=z.sp/\BP C n (eS s) (xh s) st v j c' s1/\(c'=2∨c'=3)/\j<eS s/\c'=c/\s1=z1:=λ{c z1} g=>⟨λ_=>z.sp,λ_=>0,0,c,z1,rfl,Ja _ _ _ _ _ rfl y_ (λi hi=>by omega) (λ_=>g),g.outc c rfl,by unfold eS;split <;> omega,rfl,rfl⟩;rcases h with⟨h0,-⟩|⟨-,⟨h5,r,hE,rfl,rfl⟩|⟨h5,hw⟩⟩
 ·omega
 ·cases hE using Ev_i with
  | pbad m _ _ _ _ c _ I=>
   obtain⟨st,v,j,c',s1,q1,q2,q3,q4,rfl,rfl⟩:=Je I;exact⟨st,v,j,c',s1,q1,q2,q3,.inl ⟨q4,rfl,rfl,rfl⟩⟩
  | decl m _ _ _ _ x z1 I J=>
   refine⟨_,_,_,2,_,rfl,Z o_ J,.inl rfl,.inr ⟨rfl,.inl ⟨I,rfl,rfl,?_⟩⟩⟩;rw[Y o_];rfl
  | set m _ _ _ _ x z1 I J=>
   refine⟨_,_,_,2,_,rfl,Z o_ J,.inl rfl,.inr ⟨rfl,.inr (.inl ⟨I,rfl,rfl,?_⟩)⟩⟩;rw[Y o_];rfl
  | sbad m _ _ _ _ x z1 c _ I J U=>
   refine⟨λi=>if i=0 then z.sp else z1,λ_=>x,1,c,z',rfl,Ja _ _ _ _ _ rfl (by rw[Jd I];omega) (λi hi=>?_) (λ_=>U),U.outc c rfl,.inl ⟨by rw[Jd I];omega,rfl,rfl,rfl⟩⟩;obtain rfl:i=0:=by omega
   exact J
  | smis m _ _ _ _ x z1 y _ I J U g4=>
   refine⟨λi=>if i=0 then z.sp else if i=1 then z1 else z',λi=>if i=0 then x else y,eS s,2,z',rfl,Ja _ _ _ _ _ rfl n_ (λi hi=>?_) (λh=>by omega),.inl rfl,.inr ⟨rfl,.inr (.inr (.inl ⟨I,.inl ⟨?_,rfl,rfl,?_⟩⟩))⟩⟩
   ·rw[Jd I]at hi;have:i=0∨i=1:=by omega
    rcases this with rfl|rfl
    ·exact J
    ·exact U
   ·rw[Jd I];exact g4
   ·rw[Jd I];rfl
  | stor m _ _ _ _ x z1 y z2 I J U g4=>
   refine⟨λi=>if i=0 then z.sp else if i=1 then z1 else z2,λi=>if i=0 then x else y,eS s,2,z2,rfl,Ja _ _ _ _ _ rfl n_ (λi hi=>?_) (λh=>by omega),.inl rfl,.inr ⟨rfl,.inr (.inr (.inl ⟨I,.inr ⟨?_,rfl,rfl,?_⟩⟩))⟩⟩
   ·rw[Jd I]at hi;have:i=0∨i=1:=by omega
    rcases this with rfl|rfl
    ·exact J
    ·exact U
   ·rw[Jd I];exact g4
   ·rw[Jd I];rfl
  | ifth m _ _ _ _ x z1 _ _ I J U g4=>
   refine⟨_,_,_,2,_,rfl,Z o_ J,.inl rfl,.inr ⟨rfl,.inr (.inr (.inr (.inl ⟨I,r,rfl,rfl,.inl ⟨U,?_⟩⟩)))⟩⟩;rw[Y o_];exact g4
  | ifel m _ _ _ _ z1 _ _ I J U=>
   refine⟨_,_,_,2,_,rfl,Z o_ J,.inl rfl,.inr ⟨rfl,.inr (.inr (.inr (.inl ⟨I,r,rfl,rfl,.inr ⟨rfl,?_⟩⟩)))⟩⟩;rw[Y o_];exact U
  | whno=>omega
  | whn=>omega
  | whdr=>omega
  | whag=>omega
  | retn m _ _ _ _ x _ I J=>
   refine⟨_,_,_,2,_,rfl,Z o_ J,.inl rfl,.inr ⟨rfl,.inr (.inr (.inr (.inr (.inr (.inl ⟨I,rfl,rfl,?_⟩)))))⟩⟩;rw[Y o_];rfl
  | tell m _ _ _ _ x z1 I J=>
   refine⟨_,_,_,2,_,rfl,Z o_ J,.inl rfl,.inr ⟨rfl,.inr (.inr (.inr (.inr (.inr (.inr (.inl ⟨I,rfl,rfl,?_⟩))))))⟩⟩;rw[Y o_];rfl
  | only m _ _ _ _ x _ I J=>
   refine⟨_,_,_,2,_,rfl,Z o_ J,.inl rfl,.inr ⟨rfl,.inr (.inr (.inr (.inr (.inr (.inr (.inr ⟨I,rfl,rfl,?_⟩))))))⟩⟩;rw[Y o_];rfl
 ·rcases hw with⟨c,I,rfl,rfl⟩|⟨I,rfl,rfl⟩|⟨x,z1,r,I,J,U,g4⟩
  ·obtain⟨st,v,j,c',s1,q1,q2,q3,q4,rfl,rfl⟩:=Je I;exact⟨st,v,j,c',s1,q1,q2,q3,.inl ⟨q4,rfl,rfl,rfl⟩⟩
  ·refine⟨_,_,_,2,_,rfl,Z o_ I,.inl rfl,.inr ⟨rfl,.inr (.inr (.inr (.inr (.inl ⟨h5,.inl ⟨rfl,rfl,rfl,?_⟩⟩))))⟩⟩;rw[Y o_];rfl
  ·refine⟨_,_,_,2,_,rfl,Z o_ I,.inl rfl,.inr ⟨rfl,.inr (.inr (.inr (.inr (.inl ⟨h5,.inr ⟨J,r,?_,g4⟩⟩))))⟩⟩;rw[Y o_];exact U
def EW(C:IC)(sv:BY)(s:St)(a b:List St)(us:Nat->BY):Prop:=
 (s.kind=1/\sv=.iface 213 (.agg #[sV s.name,us 0])) ∨
 (s.kind=2/\sv=.iface 214 (.agg #[sV s.name,us 0])) ∨
 (s.kind=3/\sv=.iface 216 (.agg #[sV s.name,us 0,us 1])) ∨
 (s.kind=4/\∃va vb La Lb,sv=.iface 218 (.agg #[us 0,va,vb])/\pT C.w0 C.S va La/\a=dd La/\pT C.w0 C.S vb Lb/\b=dd Lb) ∨
 (s.kind=5/\∃va La,sv=.iface 220 (.agg #[us 0,va])/\pT C.w0 C.S va La/\a=dd La) ∨
 (s.kind=6/\sv=.iface 185 (.agg #[us 0])) ∨
 (s.kind=7/\sv=.iface 221 (.agg #[us 0])) ∨
 (s.kind=8/\sv=.iface 222 (.agg #[us 0]))
theorem Ax{l:List St}(h:Bv C.w0 C.S sv l):∃s a b us,D7 l s a b/\EW C sv s a b us/\∀i,i<eS s->Tv C.w0 C.S (us i) (xh s i):=by
 have I:∀ {s:St} {x:BY},s.kind≠3->Tv C.w0 C.S x s.e->∀i,i<eS s->Tv C.w0 C.S x (xh s i):=λ{s x} h3 hx i hi=>by
  unfold eS at hi;rw[if_neg h3]at hi;obtain rfl:i=0:=by omega
  exact hx
 cases h using Bv_i with
 | decl s x h1 h2 h3 h4=>exact⟨s,[],[],λ_=>x,⟨rfl,h3,h4⟩,.inl ⟨h1,rfl⟩,I o_ h2⟩
 | set s x h1 h2 h3 h4=>exact⟨s,[],[],λ_=>x,⟨rfl,h3,h4⟩,.inr (.inl ⟨h1,rfl⟩),I o_ h2⟩
 | store s x y h1 h2 h3 h4 h5=>
  refine⟨s,[],[],λi=>if i=0 then x else y,⟨rfl,h4,h5⟩,.inr (.inr (.inl ⟨h1,rfl⟩)),λi hi=>?_⟩;unfold eS at hi;rw[if_pos h1]at hi;have:i=0∨i=1:=by omega
  rcases this with rfl|rfl
  ·exact h2
  ·exact h3
 | ifs s x va vb A B vs us F H h1 h2 h3 h4 h5 h6 h7 h8=>exact⟨s,_,_,λ_=>x,⟨rfl,h7,h8⟩,.inr (.inr (.inr (.inl ⟨h1,va,vb,_,_,rfl,h3.toL h4,gH vs F A,h5.toL h6,gH us H B⟩))),I o_ h2⟩
 | whil s x va A vs F h1 h2 h3 h4 h5 h6=>exact⟨s,cG F A,[],λ_=>x,⟨i_,h5,h6⟩,.inr (.inr (.inr (.inr (.inl ⟨h1,va,_,rfl,h3.toL h4,gH vs F A⟩)))),I o_ h2⟩
 | ret s x h1 h2 h3 h4=>exact⟨s,[],[],λ_=>x,⟨rfl,h3,h4⟩,.inr (.inr (.inr (.inr (.inr (.inl ⟨h1,rfl⟩))))),I o_ h2⟩
 | out s x h1 h2 h3 h4=>exact⟨s,[],[],λ_=>x,⟨rfl,h3,h4⟩,.inr (.inr (.inr (.inr (.inr (.inr (.inl ⟨h1,rfl⟩)))))),I o_ h2⟩
 | call s x h1 h2 h3 h4=>exact⟨s,[],[],λ_=>x,⟨rfl,h3,h4⟩,.inr (.inr (.inr (.inr (.inr (.inr (.inr ⟨h1,rfl⟩)))))),I o_ h2⟩
def xB(t:GC)(x:BY)(f:Nat):Prop:=(∀W:AT,(method 460 t x "loop.example/s01725/impl.expressions").run prog W=.ok (f,x) W)/\∀(y:BY) (W:AT),(callFunc f #[y]).run prog W=.ok (.enter f #[y]) W
def Cy(t:GC)(x:BY)(f:Nat)(h1:∀W:AT,(method 460 t x "loop.example/s01725/impl.expressions").run prog W=.ok (f,x) W) (h2:∀(y:BY) (W:AT),(callFunc f #[y]).run prog W=.ok (.enter f #[y]) W):xB t x f:=⟨h1,h2⟩
def rx(U:C.Ok){us:Nat->BY}(hV:EW C sv s a b us)(Jd:∀i,i<eS s->∃t x,us i=.iface t x):∃t x f,sv=.iface t x/\xB t x f/\OpC C f x (eS s) us:=by
 have Y:s.kind≠3->eS s=1:=λh=>by unfold eS;rw[if_neg h]
 have Jc:s.kind=3->eS s=2:=λh=>by unfold eS;rw[if_pos h]
 obtain⟨t,x,I⟩:=Jd 0 (by unfold eS;split <;> omega);rcases hV with⟨J,rfl⟩|⟨J,rfl⟩|⟨J,rfl⟩|⟨J,va,vb,La,Lb,rfl,Z,-,hB,-⟩|⟨J,va,La,rfl,Z,-⟩|⟨J,rfl⟩|⟨J,rfl⟩|⟨J,rfl⟩
 ·rw[Y o_,I];exact⟨_,_,260,rfl,Cy _ _ _ (λW=>by kernel_rfl) (λy W=>by kernel_rfl),Av U s.name t x us I⟩
 ·rw[Y o_,I];exact⟨_,_,261,rfl,Cy _ _ _ (λW=>by kernel_rfl) (λy W=>by kernel_rfl),BX U s.name t x us I⟩
 ·obtain⟨t2,x2,Jb⟩:=Jd 1 (by rw[Jc J];omega);rw[Jc J,I,Jb];exact⟨_,_,262,rfl,Cy _ _ _ (λW=>by kernel_rfl) (λy W=>by kernel_rfl),w_ U s.name t x t2 x2 us I Jb⟩
 ·obtain⟨a1,c1,rfl,-⟩:=Z.args;obtain⟨a2,c2,rfl,-⟩:=hB.args;rw[Y o_,I];exact⟨_,_,263,rfl,Cy _ _ _ (λW=>by kernel_rfl) (λy W=>by kernel_rfl),DM U a1 _ c1 a2 _ c2 t x us I⟩
 ·obtain⟨a1,c1,rfl,-⟩:=Z.args;rw[Y o_,I];exact⟨_,_,264,rfl,Cy _ _ _ (λW=>by kernel_rfl) (λy W=>by kernel_rfl),xe U a1 _ c1 t x us I⟩
 ·rw[Y o_,I];exact⟨_,_,258,rfl,Cy _ _ _ (λW=>by kernel_rfl) (λy W=>by kernel_rfl),tm U t x us I⟩
 ·rw[Y o_,I];exact⟨_,_,265,rfl,Cy _ _ _ (λW=>by kernel_rfl) (λy W=>by kernel_rfl),BZ U t x us I⟩
 ·rw[Y o_,I];exact⟨_,_,266,rfl,Cy _ _ _ (λW=>by kernel_rfl) (λy W=>by kernel_rfl),Aw U t x us I⟩
end
def mG(r:ER):Int:=if bW r=0 then 1 else bW r
theorem Ay{C:IC}(hC:C.Ok){w:World}{q:Nat}{vI vO:Value}{z z':ES}{r:ER}(h:IS C w (some q) vI vO z){t:TypeId}{x:Value}{Y:Option Addr}{Z c1:Nat}(Xe:∀X,IS C X (some q) vI vO z->Calls prog 70 #[pV C.P,.slice Y Z c1] X λx w'=>mU C X q vO (bW r) (cI r) z' x w'):
  Calls prog 147 #[pV C.P,.agg #[.iface t x,.slice Y Z c1]] w λx w'=>mU C w q vO (mG r) (cI r) z' x w':=by
 obtain⟨W0,Jc⟩:=q_ ((w.alloc (.cells #[.iface t x,.slice Y Z c1] 220)).alloc (.cells #[V 0,V 0] 75));obtain⟨B,hB⟩:=q_ w.heap.size;have Jh:Bl w (w.alloc (.cells #[.iface t x,.slice Y Z c1] 220)):=au _ _;have Jp:Bl w W0:=by rw[Jc];exact Jh.alloc Jh.size _
 have Jm:aK W0 (B+1) [V 0,V 0]:=by
  rw[Jc,hB];have:=aH (w.alloc (.cells #[.iface t x,.slice Y Z c1] 220)) #[V 0,V 0] 75 (by show 2<=1000;omega);rw[World.size_alloc]at this;exact this
 have Xc:aK W0 B [.iface t x,.slice Y Z c1]:=by
  rw[Jc,hB];exact(aH w #[.iface t x,.slice Y Z c1] 220 (by show 2<=1000;omega)).below (au _ _)
 have Jq:B+1<W0.heap.size:=b_ (Jm 0 _ rfl).1;have Xn:¬dt C (some q) vO (B+1):=λhk=>by have:=dt.lt hC h _ hk;omega
 have Jz:w.heap.size<=B+1:=o_;obtain⟨Xk,H0,HC,Xh,Xi,Jv,Xm⟩:=h7 (Xe W0 (h.below hC Jp)) h hC Jc hB Jp Jm;have x1:=(Xc 1 _ rfl).1;clear h hC Xe Jc hB Jp Jm Xc Jh;go_in;go_upto_region 1 with fail;rw[<-Xh.out,<-Xi.out];go_wp2_with fail;refine Xk.out.mono ?_;rintro e w2 ⟨Xf,Xg,rfl,Jy,Jr,Xd⟩;obtain⟨J,Jo⟩:=q_ (bW r);obtain⟨U,Ju⟩:=q_ (cI r);rw[<-Jo,<-Ju];obtain⟨W3,Jf⟩:=q_ (w2.alloc (.cells #[V J,V U] 75));have Jt:Bl w2 W3:=by rw[Jf];exact r_.alloc n_ _
 have Ja:aK W3 w2.heap.size [V J,V U]:=by rw[Jf];exact aH w2 _ _ (by show 2<=1000;omega)
 obtain⟨I,Jg⟩:=q_ w2.heap.size;rw[<-Jg]at Ja;have Jn:=Xm.out.tcs Jq Jr Xn;have Xl:I≠B+1:=by have:=b_ (Jn 0 _ rfl).1;rw[Jg];intro e;have e':w2.heap.size=B+1:=e;have t':B+1<w2.heap.size:=this;omega
 have Je:=Jn.below Jt;obtain⟨Xp,J_,Jb,Jj,Jw,Ji,Xj,Jl,Js,Jx⟩:=h10 Ja Je Jy Jr Xd Jt Jf Jg Jo Ju;obtain⟨y0,f0⟩:=Je 0 _ rfl;obtain⟨y1,f1⟩:=Je 1 _ rfl;obtain⟨z0,g0⟩:=Ja 0 _ rfl;obtain⟨z1,g1⟩:=Ja 1 _ rfl;clear Jy Jr Xd Jt Jf Jg Jo Ju Ja Je Jn x1;go_upto_region 2 with fail;rw[<-Xj.out,<-Jl.out];by_cases hz:J=0
 ·have e1:mG r=1:=by unfold mG;rw[if_pos (by rw[<-Js.out];exact hz)]
  have Xo:(J == 0)=true:=by simpa using hz
  have hT:ak (λk=>k=I) W3 (W3.setCell ⟨I,0,none⟩ (V 1)):=(ak.refl (λk=>k=I) W3).setCell (p:=⟨I,0,none⟩) rfl _;have Xa:IS C (W3.setCell ⟨I,0,none⟩ (V 1)) (some q) Xf Xg z':=(Jb.out.below HC Ji).past HC hT (λk hk=>by
   have e:k=I:=hk;have:=Jl.out;refine⟨by have:=(Jb.out.hi HC.out).2.2;omega,λe2=>?_,λe2=>?_⟩
   ·have:=dt.lt HC.out Jb.out k (.inr e2);omega
   ·have:=(World.ownsRow.lt Jb.out.out k e2).2;omega)
  have Xb:ak (dt C (some q) vO) W0 (W3.setCell ⟨I,0,none⟩ (V 1)):=(Jj.out.of_below Ji).next hT (λk hk=>.inr (by have e:k=I:=hk;have:=Jl.out;have:=Jj.out.size;omega));have Jk:=ah (dN HC Jz H0 Jv Jq Xa Xb Jw r_ (J_.out.tcs (b_ y0) hT (λe=>Xl e.symm)) 1 U);have Jd:Hid (mG r=1/\cI r=U):=⟨e1,Jx.out.symm⟩;clear Xa hT Xb e1 hz;go_wp2_with fail;obtain⟨t0,t1,hQ⟩:=Jk;refine bodyPost_ret (v:=.agg #[V 1,V U]) (by simp[results,results147,go_sem,t0,t1]) rfl ?_;rw[Jd.out.1,Jd.out.2];exact hQ
 ·have e1:mG r=J:=by unfold mG;rw[if_neg (by rw[<-Js.out];exact hz),Js]
  have Xo:(J == 0)=false:=by simpa using hz
  have Jk:=ah (dN HC Jz H0 Jv Jq Jb Jj Jw Ji J_ J U);have Jd:Hid (mG r=J/\cI r=U):=⟨e1,Jx.out.symm⟩;clear e1 hz;go_wp2_with fail;obtain⟨t0,t1,hQ⟩:=Jk;refine bodyPost_ret (v:=.agg #[V J,V U]) (by simp[results,results147,go_sem,t0,t1]) rfl ?_;rw[Jd.out.1,Jd.out.2];exact hQ
section
variable{C:IC}{vO vI vI' vO':BY}{q M A:Nat}{W0 w w':AT}{vV:Option Nat}{st:Nat->ES}{v:Nat->Int}{c:Int}{s1:ES}{x:Ending}
def iJ{Jb:BY}{I Y w3:AT}(h1:Hid (ak (cL C vO) W0 I))(hM:Hid (aK I M [V 0,V 0]))(h2:Hid (Bl I Y))(Je:M<W0.heap.size)(Jc:¬dt C (some q) vO M)(Z:ak (cL C vO) Y w3)(Jd:∀k,Jb.ownBlock=some k->vO.ownBlock=some k∨Y.heap.size<=k):
  Hid (ak (cL C vO) W0 w3)/\Hid (aK w3 M [V 0,V 0])/\Hid (∀k,Jb.ownBlock=some k->vO.ownBlock=some k∨W0.heap.size<=k)/\Hid (ak (dt C (some q) vO) W0 w3)/\(DO w3 M 0 (V 0)/\D4 w3 M 0)/\(DO w3 M 1 (V 0)/\D4 w3 M 1)/\W0.heap.size<=w3.heap.size:=by
 have z1:=h1.o.size;have z2:=h2.o.size;have J:ak (cL C vO) W0 w3:=(h1.o.of_below h2.o).trans Z;have U:aK w3 M [V 0,V 0]:=(hM.o.below h2.o).tcs o_ Z (λe=>Jc (.inl e));exact⟨J,U,λk hk=>(Jd k hk).imp id (λh=>by omega),dt.of J,U 0 _ rfl,U 1 _ rfl,J.size⟩
def tp{vO2:BY}(h:¬dt C (some q) vO w.heap.size)(hM:¬dt C (some q) vO M)(hM0:M<W0.heap.size)(ho:∀k,vO2.ownBlock=some k->vO.ownBlock=some k∨W0.heap.size<=k):¬dt C (some q) vO2 M:=λhk=>by
 rcases hk with hk|hk
 ·rcases hk with h1|h1|h1
  ·exact hM (.inl (.inl h1))
  ·exact hM (.inl (.inr (.inl h1)))
  ·rcases ho M h1 with h2|h2
   ·exact hM (.inl (.inr (.inr h2)))
   ·omega
 ·exact hM (.inr hk)
def map_cell{n:Nat}{D:DataW Unit}(h:w.ownsMap prog 9 (plainElem (H:=Unit) prog 2) q n D)(j:Nat):w.cell? ⟨q,j,none⟩=none:=by
 obtain⟨J,U,I,-⟩:=h;simp[cell?,I]
def Az{z:ES}(h:IS C w (some q) vI vO z)(j:Nat):w.cell? ⟨q,j,none⟩=none:=by
 rcases h.var with⟨e,-⟩|⟨b,n,D,e,I,-⟩
 ·cases e
 ·cases e;exact map_cell I j
def mH(h:(A=A/\∃a n cp,x=rW (.tuple #[.slice a n cp,V 0])/\IS C w' vV vI' vO' (st A)/\mT C w' vO' (.slice a n cp) (cX A v))∨(A<A/\x=rW (.tuple #[nV,V (c+1)])/\IS C w' vV vI' vO' s1))(hA:A=1):
  ∃bv cp,x=rW (.tuple #[rV bv 1 cp,V 0])/\IS C w' vV vI' vO' (st A)/\bv<w'.heap.size/\¬cL C vO' bv/\DO w' bv 0 (V (v 0)):=by
 rcases h with⟨-,a,n,cp,rfl,Y,h2⟩|⟨h,-⟩
 ·have U:cX A v=[v 0]:=by rw[hA];simp[cX]
  rw[U]at h2;obtain⟨av,cv,I,-,-,Z⟩:=h2;simp only[Value.slice.injEq,l_c,l_n,Nat.zero_add]at I;obtain⟨rfl,rfl,rfl⟩:=I;obtain⟨bv,rfl,Je,J,Jb⟩:=Z i_;exact⟨bv,cp,rfl,Y,Je,J,Jb 0 i_⟩
 ·omega
def DP(h:(A=A/\∃a n cp,x=rW (.tuple #[.slice a n cp,V 0])/\IS C w' vV vI' vO' (st A)/\mT C w' vO' (.slice a n cp) (cX A v))∨(A<A/\x=rW (.tuple #[nV,V (c+1)])/\IS C w' vV vI' vO' s1))(hA:A=2):
  ∃bv cp,x=rW (.tuple #[rV bv 2 cp,V 0])/\IS C w' vV vI' vO' (st A)/\bv<w'.heap.size/\¬cL C vO' bv/\DO w' bv 0 (V (v 0))/\DO w' bv 1 (V (v 1)):=by
 rcases h with⟨-,a,n,cp,rfl,Z,h2⟩|⟨h,-⟩
 ·have Y:cX A v=[v 0,v 1]:=by rw[hA];rfl
  rw[Y]at h2;obtain⟨av,cv,J,-,-,Jd⟩:=h2;simp only[Value.slice.injEq,l_c,l_n,Nat.zero_add]at J;obtain⟨rfl,rfl,rfl⟩:=J;obtain⟨bv,rfl,Je,U,I⟩:=Jd i_;exact⟨bv,cp,rfl,Z,Je,U,I 0 i_,I 1 i_⟩
 ·omega
theorem B_(hC:C.Ok){s:ES}(v:Int)(h:IS C w (some q) vI vO s)(hu:s.o.length+1+s.u<=100000):
  ∃va vc w3,(Builtin.append_ #[26,26] 26 #[vO,rV w.heap.size 1 1]).run prog (w.alloc (.cells #[V v] 2))=.ok (.slice va (s.o.length+1) vc) w3/\IS C (w3.setCell ⟨C.P,7,none⟩ (.slice va (s.o.length+1) vc)) (some q) vI (.slice va (s.o.length+1) vc) {s with o:=s.o++[v]}/\(w3.cell? ⟨C.P,7,none⟩=some vO/\w3.frozen? ⟨C.P,7,none⟩=false)/\ak (cL C vO) w w3/\ak (cL C vO) w (w3.setCell ⟨C.P,7,none⟩ (.slice va (s.o.length+1) vc))/\∀k,(Value.slice va (s.o.length+1) vc).ownBlock=some k->vO.ownBlock=some k∨w.heap.size<=k:=by
 obtain⟨p1,p2,p3⟩:=h.hi hC;obtain⟨q1,q2,q3,q4,q5⟩:=hC.pg;have Je:=h.uu;obtain⟨va,vc,w3,r1,r2,I,r4⟩:=uD h.out v p3 o_;have Y:=λk hk=>World.ownsRow.lt h.out k hk;have Jf:¬vO.ownBlock=some C.P:=λe=>by have:=(Y _ e).1;omega
 have Jc:=h.box.tcs p1 I Jf;have Z:ak (λk=>k=C.P) w3 (w3.setCell ⟨C.P,7,none⟩ (.slice va (s.o.length+1) vc)):=(ak.refl (λk=>k=C.P) w3).setCell (p:=⟨C.P,7,none⟩) rfl _;have J:ak (λk=>vO.ownBlock=some k∨k=C.P) w (w3.setCell ⟨C.P,7,none⟩ (.slice va (s.o.length+1) vc)):=(I.mono (λk hk=>.inl hk)).next Z (λk hk=>.inl (.inr hk));have tE:ak (cL C vO) w w3:=I.mono λk hk=>.inr (.inr hk);refine⟨va,vc,w3,r1,⟨h.tc.next J (λk hk=>?_),Jc.set 7 _,h.gl,λk hk=>(h.gw k hk).tcs (p2 _ (g_ hk)).1 J (λhs=>?_),h.g1,?_,h.inp,?_,⟨h.ok.g,h.ok.l,h.ok.i⟩,⟨Je.1,?_⟩,h.nn⟩,Jc 7 _ rfl,tE,tE.setCell (p:=⟨C.P,7,none⟩) (.inl rfl) _,λk hk=>(r4 k hk).imp_right (λU=>by omega)⟩
 ·rcases hk with hk|hk
  ·exact .inr (Y k hk).1
  ·exact .inl (.inl hk)
 ·rcases hs with hs|hs
  ·have:=(Y _ hs).1;have:=(q5 _ (g_ hk)).2;omega
  ·exact(p2 _ (g_ hk)).2 hs
 ·rcases h.var with⟨e,-⟩|⟨b,n,D,e,U,h2,h3,h4,h5⟩
  ·cases e
  ·cases e
   have Jd:=U.lt;obtain⟨es,Ja,h0,F,hs,hD⟩:=U;refine .inr ⟨q,n,D,rfl,⟨es,Ja,(J.block q Jd (λhs=>?_)).trans h0,F,hs,hD⟩,h2,h3,h4,λe=>?_⟩
   ·rcases hs with hs|hs
    ·exact h5 hs
    ·omega
   ·rcases r4 q e with h6|h6
    ·exact h5 h6
    ·omega
 ·show World.ownsRow _ _ _ _ _ (s.o++[v]).length ((s.o++[v]).map _);rw[l_a,List.map_append];exact aO r2 Z (λk hk hs=>by have e:k=C.P:=hs;have:=(World.ownsRow.lt r2 k hk).1;omega)
 ·show(s.o++[v]).length+s.u<=100000;rw[l_a,List.length_singleton];exact hu
end
section
variable{C:IC}{w:AT}{q A f:Nat}{vI vO xu:BY}{z s1:ES}{us:Nat->BY}{st:Nat->ES}{v:Nat->Int}{tu:GC}
def B1(I:C.Ok)(h:IS C w (some q) vI vO z)(hu:0<z.u)(hF:xB 222 (.agg #[.iface tu xu]) f)(hO:OpC C f (.agg #[.iface tu xu]) A us)(Jv:∀(X:AT) (ar:BY),IS C X (some q) vI vO z.sp->rH C X vO ar A us->Calls prog 144 #[pV C.P,ar] X λx w'=>rI C X (some q) vO A st v A 2 s1 x w'):
  Calls prog 110 #[pV C.P,.iface 222 (.agg #[.iface tu xu])] w λx w'=>mU C w q vO 0 0 (st A) x w':=by
 obtain⟨hm,Xr⟩:=hF;obtain⟨W0,M,Jm,J,Y,Ju,U⟩:=gg w;have Xb:w.heap.size<=M:=Nat.le_of_eq J.symm;have Js:¬dt C (some q) vO M:=λhk=>Ft (dt.lt I h M hk)
 obtain⟨Xj,Jl,H0,HC,J_,Jk,HM,Xa,Ji⟩:=h9 (dY I (h.below I Y) hu) hO h I Jm Y J Ju Jv;have Je:=λW v=>dD W 222 v d_;have Jt:=λW v=>ff W 222 v d_;have Jc:=λW v=>eh W 222 v d_;have Xm:=λW v=>ik W 222 v d_;have Jd:=λW v=>im W 222 v d_;have Jb:=λW v=>jB W 222 v d_;have Jj:=λW v=>vh W 222 v d_;clear h I hO Jv Jm Y J Ju hu;go_in;go_upto_region 1 with fail;rw[<-J_.o,<-HM.o];go_wp2_with fail;refine Xj.o.mono ?_;rintro e w1 ⟨rfl,Jn,Jp⟩;obtain⟨Xh,Jx,Xk,Jq⟩:=h4 Jn Jp (Xa.o.tcs U Jp (λe=>Js (.inl e))) (Jl w1 (some q) vI vO z.sp Jn);go_wp2_with fail;refine Jq.o.mono ?_;rintro e w2 ⟨a,cp,rfl,hL,Jh⟩;obtain⟨Xc,Xi⟩:=h2 (Ji w2 _ (Xh.o.below HC Jh) hL) Jh;clear hL Jh Ji Jl Jq;go_wp2_with fail;refine Xc.o.mono ?_;rintro e w3 ⟨Xf,Jr,Xl,Jy,Ja⟩;obtain⟨Xg,Xe,Xn,Jw,⟨y0,f0⟩,⟨y1,f1⟩,Xo⟩:=iJ Jx Xk Xi U Js Xl Jy;obtain⟨a2,n2,c2,rfl,Jo,Xd⟩:∃a n cp,e=rW (.tuple #[.slice a n cp,V 0])/\IS C w3 (some q) Xf Jr (st A)/\mT C w3 Jr (.slice a n cp) (cX A v):=by
  rcases Ja with⟨-,a2,n2,c2,e1,e2,e3⟩|⟨hj,-⟩
  ·exact⟨a2,n2,c2,e1,e2,e3⟩
  ·omega
 obtain⟨Xq,Xp⟩:=h2 Jo Xd;have Z:ak (cL C vO) w w3:=(Jk.o.tcs (S:=cL C vO)).trans Xg;clear Ja Z;have Jz:=ah (dN HC Xb H0 Jk U Jo Jw Xn r_ Xe 0 0);go_wp2_with fail;obtain⟨t0,t1,hQ⟩:=Jz;exact bodyPost_ret (v:=.agg #[V 0,V 0]) (by simp[results,results110,go_sem,t0,t1]) rfl hQ
def xi(J:C.Ok)(h:IS C w (some q) vI vO z)(hu:0<z.u)(hA:A=1)(hF:xB 185 (.agg #[.iface tu xu]) f)(hO:OpC C f (.agg #[.iface tu xu]) A us)(Xf:∀(X:AT) (ar:BY),IS C X (some q) vI vO z.sp->rH C X vO ar A us->Calls prog 144 #[pV C.P,ar] X λx w'=>rI C X (some q) vO A st v A 2 s1 x w'):
  Calls prog 110 #[pV C.P,.iface 185 (.agg #[.iface tu xu])] w λx w'=>mU C w q vO 2 (v 0) (st A) x w':=by
 obtain⟨hm,X_⟩:=hF;obtain⟨W0,M,Jz,hM,Jm,Jw,Jo⟩:=gg w;have Xk:w.heap.size<=M:=Nat.le_of_eq hM.symm;have Xa:¬dt C (some q) vO M:=λhk=>Ft (dt.lt J h M hk)
 obtain⟨Jv,Xd,H0,HC,Xu,Jy,HM,Xr,Js⟩:=h9 (dY J (h.below J Jm) hu) hO h J Jz Jm hM Jw Xf;have Jj:=λW v=>dD W 185 v d_;have Xb:=λW v=>ff W 185 v d_;have Jh:=λW v=>eh W 185 v d_;have Xo:=λW v=>ik W 185 v d_;have Ji:=λW v=>im W 185 v d_;have Jd:=mM;have HA:=ah hA;clear hA;clear h J hO Xf Jz Jm hM Jw hu;go_in;go_upto_region 1 with fail;rw[<-Xu.o,<-HM.o];go_wp2_with fail;refine Jv.o.mono ?_;rintro e w1 ⟨rfl,Jk,Jr⟩;obtain⟨Xm,Xh,Xw,Ju⟩:=h4 Jk Jr (Xr.o.tcs Jo Jr (λe=>Xa (.inl e))) (Xd w1 (some q) vI vO z.sp Jk);clear Jk Jr Jv;go_wp2_with fail;refine Ju.o.mono ?_;rintro e w2 ⟨a,cp,rfl,hL,Jp⟩;obtain⟨J_,Xt⟩:=h2 (Js w2 _ (Xm.o.below HC Jp) hL) Jp;clear hL Jp Js Xd Ju;go_wp2_with fail;refine J_.o.mono ?_;rintro e w3 ⟨Yf,Yc,Xc,Xe,Ja⟩;obtain⟨Xl,Xv,Xp,Xg,⟨y0,f0⟩,⟨y1,f1⟩,Xx⟩:=iJ Xh Xw Xt Jo Xa Xc Xe;clear Xc Xe J_;obtain⟨bv,cw,rfl,Jn,Jb,Xy,Je⟩:=mH Ja HA;have hI0:ak (cL C vO) w w3:=(Jy.o.tcs (S:=cL C vO)).trans Xl;clear Ja hI0;obtain⟨W4,U⟩:=q_ (w3.alloc (.cells #[.iface tu xu] 185));have I:Bl w3 W4:=by rw[U];exact r_.alloc n_ _
 have Z:aK W4 w3.heap.size [.iface tu xu]:=by rw[U];exact aH w3 _ _ i_
 obtain⟨B,hB⟩:=q_ w3.heap.size;rw[<-hB]at Z;have Ya:B≠M:=o_;have Ye:¬M=B:=o_;have Jt:=Jn.below HC I;have Y:=Xv.o.below I;obtain⟨Xi,Yd,Xn,Xj,Xz,Xq⟩:=h6 I Z U hB Jt Y;clear y0 f0 y1 f1;obtain⟨y0,f0⟩:=Y 0 _ rfl;obtain⟨y1,f1⟩:=Y 1 _ rfl;have Yb:bv<W4.heap.size:=l_ Jb I.size;have Jq:DO W4 bv 0 (V (v 0)):=(I.cell (p:=⟨bv,0,none⟩) Jb).trans Je;clear Je Jb;have Jx:=ah (dN HC Xk H0 Jy Jo Jn Xg Xp Xi Xq 2 (v 0));generalize hv0:v 0=v0 at Jx Jq;have Xs:=ah hv0;clear Jn Jt I Z U hB Y hv0;go_upto_region 30 with fail;rw[<-Xn.o,<-Xj.o];go_wp2_with fail;obtain⟨t0,t1,hQ⟩:=Jx;refine bodyPost_ret (v:=.agg #[V 2,V v0]) (by simp[results,results110,go_sem,t0,t1]) rfl ?_;rw[Xs.o];exact hQ
end
section
variable{T:GC}{f:Nat}
def DQ{xv:BY}(h:xB T xv f)(w:AT)(cs:Array BY):∃W,W=w.alloc (.cells cs T):=⟨_,rfl⟩
theorem uE{C:IC}(hT:T=213∨T=214)(hC:C.Ok){w:World}{q:Nat}{vI I:Value}{z:ES}(h:IS C w (some q) vI I z)(hu:0<z.u){A:Nat}{us:Nat->Value}{st:Nat->ES}{v:Nat->Int}{s1:ES}{tu:TypeId}{xu:Value}{nm:ByteArray}(hA:A=1){z':ES}(Jg:∀(X:World) (vI3 vO3:Value),IS C X (some q) vI3 vO3 (st A)->ak (cL C I) w X->Calls prog 145 #[pV C.P,sV nm,V (v 0)] X λe w'=>e=rW (.tuple #[])/\IS C w' (some q) vI3 vO3 z'/\ak (dt C (some q) vO3) X w')(hF:xB T (.agg #[sV nm,.iface tu xu]) f)(hO:OpC C f (.agg #[sV nm,.iface tu xu]) A us)(Xl:∀(X:World) (ar:Value),IS C X (some q) vI I z.sp->rH C X I ar A us->Calls prog 144 #[pV C.P,ar] X λx w'=>rI C X (some q) I A st v A 2 s1 x w'):
  Calls prog 110 #[pV C.P,.iface T (.agg #[sV nm,.iface tu xu])] w λx w'=>mU C w q I 0 0 z' x w':=by
 rcases hT with rfl|rfl;all_goals
  have Ya:=ah hF;obtain⟨hm,Yk⟩:=hF;obtain⟨W0,M,Xc,hM,Jq,J_,Jk⟩:=gg w;have Xr:w.heap.size<=M:=Nat.le_of_eq hM.symm;have Ju:¬dt C (some q) I M:=λhk=>by have:=dt.lt hC h M hk;omega
  have Jz:=ah (dY hC (h.below hC Jq) hu);have Xi:=ah hO;have H0:=ah h;have Y:=ah hC;have Yc:=ah Xc;have Xb:=ah Jq;have HM:=ah hM;have X_:=ah J_;have Jv:=ah Xl;have Jl:=ql;have Xy:=λW v=>dD W 214 v d_;have Xg:=sf;have HA:=ah hA;clear hA;clear h hC hO Xl Xc Jq hM J_ hu;go_in;go_upto_region 1 with fail;rw[<-Yc.out,<-HM.out];go_wp2_with fail;refine Jz.out.mono ?_;rintro e w1 ⟨rfl,Jm,Jt⟩;have Xt:=ah Jm;have Xn:=ah Jt;have Yh:=ah (X_.out.tcs Jk Jt (λe=>Ju (.inl e)));have Jy:=ah (Xi.out w1 (some q) vI I z.sp Jm);clear Jm Jt Jz;go_wp2_with fail;refine Jy.out.mono ?_;rintro e w2 ⟨a,cp,rfl,hL,Js⟩;have Xd:=ah (Jv.out w2 _ (Xt.out.below Y.out Js) hL);have Yb:=ah Js;clear hL Js Jv Xi Jy;go_wp2_with fail;refine Xd.out.mono ?_;rintro e w3 ⟨vI3,vO3,Xh,Xj,Jb⟩;obtain⟨Xs,Yf,Jp,Xm,⟨y0,f0⟩,⟨y1,f1⟩,Yj⟩:=iJ Xn Yh Yb Jk Ju Xh Xj;clear Xh Xj Xd;obtain⟨J,cw,rfl,Jr,Jc,Xo,Jf⟩:=mH Jb HA;have Z:ak (cL C I) w w3:=(Xb.out.tcs (S:=cL C I)).trans Xs;have Xx:=ah Z;clear Jb Z;obtain⟨W4,Jj⟩:=DQ Ya.out w3 #[sV nm,.iface tu xu];have U:Bl w3 W4:=by rw[Jj];exact r_.alloc n_ _
  have Je:aK W4 w3.heap.size [sV nm,.iface tu xu]:=by rw[Jj];exact aH w3 _ _ (by show 2<=1000;omega)
  obtain⟨B,hB⟩:=q_ w3.heap.size;rw[<-hB]at Je;have Yl:B≠M:=o_;have Yn:¬M=B:=o_;have Jo:=Jr.below Y.out U;have Jh:=Yf.out.below U;have Jw:=ah U;have Xu:=ah Jj;have Xq:=ah hB;clear y0 f0 y1 f1;obtain⟨y0,f0⟩:=Jh 0 _ rfl;obtain⟨y1,f1⟩:=Jh 1 _ rfl;have Xz:J<W4.heap.size:=l_ Jc U.size;have Ja:W4.cell? ⟨J,0,none⟩=some (V (v 0)):=(U.cell (p:=⟨J,0,none⟩) Jc).trans Jf;clear Jf Jc;have Xe:Bl W4 W4.drew:=r_.drew;have Yg:∀k,dt C (some q) vO3 k->k<w3.heap.size:=dt.lt Y.out Jr;have Yi:¬dt C (some q) vO3 B:=λe=>by have:=Yg B e;omega
  have Yd:J≠q:=λe=>by
   have:=Az Jo 0
   rw[<-e,Ja]at this;cases this
  have Xk:Hid (Calls prog 145 #[pV C.P,sV nm,V (v 0)] W4.drew λe w'=>e=rW (.tuple #[])/\(w'.cell? ⟨B,0,none⟩=some (sV nm)/\w'.cell? ⟨J,0,none⟩=some (V (v 0)))/\IS C w' (some q) vI3 vO3 z'/\ak (dt C (some q) vO3) W4.drew w'/\aK w' M [V 0,V 0]):=by
   refine(Jg W4.drew vI3 vO3 (Jo.below Y.out Xe) ((Xx.out.of_below Jw).drew)).mono λe w' hE=>?_;obtain⟨e1,e2,e3⟩:=hE;refine⟨e1,⟨(Je.tcs (b_ (Je 0 _ rfl).1) ((ak.refl _ _).drew.trans e3) Yi 0 _ rfl).1,?_⟩,e2,e3,Jh.tcs (b_ y0) ((ak.refl _ _).drew.trans e3) (tp (w:=w) (λhk=>by have:=dt.lt Y.out H0.out _ hk;omega) Ju Jk Jp)⟩;refine(c_ (a:=⟨J,0,none⟩) (e3.block J Xz (λhk=>?_))).trans Ja;rcases hk with hk|hk
   ·exact Xo hk
   ·cases hk;exact Yd rfl
  have Ym:W4.drew.cell? ⟨B,0,none⟩=some (sV nm):=(Je 0 _ rfl).1;have Jn:W4.drew.cell? ⟨J,0,none⟩=some (V (v 0)):=Ja;generalize v 0=v0 at Xk Jn Ja;clear Jr Jo U Je Jj hB Jh Jg Xe;first
  | go_upto_region 9 with fail
  | go_upto_region 12 with fail
  rw[<-Xu.out,<-Xq.out];go_region_held3 (λW=>W.cell? ⟨B,0,none⟩=some (sV nm)/\W.cell? ⟨J,0,none⟩=some (V v0)) (go_simp)
   (first
   | ((with_reducible refine Calls.mono Xk.out ?_);rintro e w5 ⟨rfl,⟨s0,s1⟩,Xa,Jx,Ji⟩;have Ye:=ah Xa;have Xw:=ah Jx;have Xp:=ah Ji))
  have Xf:ak (dt C (some q) I) W0 w5:=dt.next (Xm.out.of_below Jw).drew Xw.out Jp;have Xv:=ah (dN Y.out Xr H0.out Xb.out Jk Ye.out Xf Jp.out r_ Xp.out 0 0);clear y0 f0 y1 f1 Xa Jx Xf s0 s1;obtain⟨y0,f0⟩:=Ji 0 _ rfl;obtain⟨y1,f1⟩:=Ji 1 _ rfl;clear Ji;go_wp2_with fail;obtain⟨t0,t1,hQ⟩:=Xv.out;exact bodyPost_ret (v:=.agg #[V 0,V 0]) (by simp[results,results110,go_sem,t0,t1]) rfl hQ
end
theorem ry{C:IC}(hC:C.Ok){w:World}{q:Nat}{vI U:Value}{z:ES}(h:IS C w (some q) vI U z)(hu:0<z.u){A:Nat}{f:Nat}{us:Nat->Value}{st:Nat->ES}{v:Nat->Int}{s1:ES}{tu:TypeId}{xu:Value}{tv:TypeId}{xv:Value}{nm:ByteArray}(hA:A=2)(hz:nm.size<=maxLen){k:Nat}(hk:k<C.t.globals.length)(hg:gV C.t.globals nm=some k){ec:Int}{z':ES}(hT:((0<=v 0/\v 0<((st A).ws C.t nm).length)/\et (v 1)/\ec=0/\z'={st A with g:=(st A).g.set k (((st A).g.getD k []).set (v 0).toNat (v 1))})∨(¬(0<=v 0/\v 0<((st A).ws C.t nm).length)/\ec=4/\z'=st A))(hF:xB 216 (.agg #[sV nm,.iface tu xu,.iface tv xv]) f)(hO:OpC C f (.agg #[sV nm,.iface tu xu,.iface tv xv]) A us)(Xx:∀(X:World) (ar:Value),IS C X (some q) vI U z.sp->rH C X U ar A us->Calls prog 144 #[pV C.P,ar] X λx w'=>rI C X (some q) U A st v A 2 s1 x w'):
  Calls prog 110 #[pV C.P,.iface 216 (.agg #[sV nm,.iface tu xu,.iface tv xv])] w λx w'=>mU C w q U ec 0 z' x w':=by
 rcases hT with⟨Y,Jf,rfl,rfl⟩|⟨Y,rfl,rfl⟩;all_goals
  obtain⟨hm,Yn⟩:=hF;obtain⟨W0,M,Xn,hM,Jy,Xl,Jo⟩:=gg w;have Xg:w.heap.size<=M:=Nat.le_of_eq hM.symm;have Xq:¬dt C (some q) U M:=λhk=>by have:=dt.lt hC h M hk;omega
  have Xk:=ah (dY hC (h.below hC Jy) hu);have Xv:=ah hO;have H0:=ah h;have I:=ah hC;have Yi:=ah Xn;have Xa:=ah Jy;have HM:=ah hM;have Yd:=ah Xl;have Xc:=ah Xx;have Js:=λW v=>dD W 216 v d_;have Xr:=λW v=>ff W 216 v d_;have Jq:=oW;have HA:=ah hA;clear hA;clear h hC hO Xx Xn Jy hM Xl hu;go_in;go_upto_region 1 with fail;rw[<-Yi.out,<-HM.out];go_wp2_with fail;refine Xk.out.mono ?_;rintro e w1 ⟨rfl,Jt,Xb⟩;have Ya:=ah Jt;have Xy:=ah Xb;have Yk:=ah (Yd.out.tcs Jo Xb (λe=>Xq (.inl e)));have Xi:=ah (Xv.out w1 (some q) vI U z.sp Jt);clear Jt Xb Xk;go_wp2_with fail;refine Xi.out.mono ?_;rintro e w2 ⟨a,cp,rfl,hL,Jz⟩;have Xo:=ah (Xc.out w2 _ (Ya.out.below I.out Jz) hL);have Yg:=ah Jz;clear hL Jz Xc Xv Xi;go_wp2_with fail;refine Xo.out.mono ?_;rintro e w3 ⟨Yt,Yr,Xs,Xw,Jc⟩;obtain⟨X_,Yj,Xm,Xd,⟨y0,f0⟩,⟨y1,f1⟩,Yl⟩:=iJ Xy Yk Yg Jo Xq Xs Xw;clear Xs Xw Xo;obtain⟨J,cw,rfl,Jn,Jb,Ym,Jj,Jk⟩:=DP Jc HA;have Ye:=ah Jn;have hI0:ak (cL C U) w w3:=(Xa.out.tcs (S:=cL C U)).trans X_;clear Jc hI0;obtain⟨W4,Jg⟩:=q_ (w3.alloc (.cells #[sV nm,.iface tu xu,.iface tv xv] 216));have Z:Bl w3 W4:=by rw[Jg];exact r_.alloc n_ _
  have Jm:aK W4 w3.heap.size [sV nm,.iface tu xu,.iface tv xv]:=by rw[Jg];exact aH w3 _ _ (by show 3<=1000;omega)
  obtain⟨B,hB⟩:=q_ w3.heap.size;rw[<-hB]at Jm;have Yo:B≠M:=o_;have Ys:¬M=B:=o_;have Jv:=Jn.below I.out Z;have Je:=Yj.out.below Z;have Xe:=ah Z;have Xt:=ah Jm;have Xj:=ah Jg;have Xf:=ah hB;have Jl:=ah Jv;clear y0 f0 y1 f1;obtain⟨y0,f0⟩:=Je 0 _ rfl;obtain⟨y1,f1⟩:=Je 1 _ rfl;have Yq:J<W4.heap.size:=l_ Jb Z.size;have Ji:W4.cell? ⟨J,0,none⟩=some (V (v 0)):=(Z.cell (p:=⟨J,0,none⟩) Jb).trans Jj;have Jh:W4.cell? ⟨J,1,none⟩=some (V (v 1)):=(Z.cell (p:=⟨J,1,none⟩) Jb).trans Jk;clear Jj Jk Jb;have J_:(st A).ws C.t nm=(st A).g.getD k []:=by unfold ES.ws;rw[hg]
  rw[J_]at Y;obtain⟨b,hb,Xu,Ja,hf⟩:=Jl.out.word I.out hk;have Jp:Bl W4 W4.drew:=r_.drew
 ·have hE:Calls prog 146 #[pV C.P,sV nm,V (v 0)] W4.drew λe w'=>e=rW (.pointer (some ⟨b,(v 0).toNat,none⟩))/\w'=W4.drew:=by
   have:=uC I.out (Jl.out.below I.out Jp) hz hk hg (v:=v 0) (by rw[<-Ja];exact Y)
   rw[hb]at this;exact this
  have HE:=ah hE;have Jx:=Jl.out.gset I.out hk (j:=(v 0).toNat) (by have:=Y.1;have:=Y.2;omega) Jf;rw[hb]at Jx;obtain⟨c0,hc,Yp⟩:∃c0,W4.drew.cell? ⟨b,(v 0).toNat,none⟩=some c0/\W4.drew.frozen? ⟨b,(v 0).toNat,none⟩=false:=⟨_,hf (v 0).toNat (V (((st A).g.getD k []).getD (v 0).toNat 0)) (by
   generalize (st A).g.getD k []=ws at Y⊢;rw[List.getElem?_map,List.getElem?_eq_getElem o_];simp[List.getD,show(v 0).toNat<ws.length by omega])⟩
  have Yb:b≠M:=λe=>by have:=dt.lt I.out H0.out b (.inl (.inr (.inl Xu)));omega
  have Xp:ak (dt C (some q) U) W0 (W4.setCell ⟨b,(v 0).toNat,none⟩ (V (v 1))):=(Xd.out.of_below Xe).setCell (p:=⟨b,(v 0).toNat,none⟩) (.inl (.inr (.inl Xu))) _;have Xh:aK (W4.setCell ⟨b,(v 0).toNat,none⟩ (V (v 1))) M [V 0,V 0]:=Je.tcs (b_ y0) ((ak.refl (λk=>k=b) W4).setCell (p:=⟨b,(v 0).toNat,none⟩) rfl _) (λe=>Yb e.symm);have Jw:=ah (dN I.out Xg H0.out Xa.out Jo Jx Xp Xm.out r_ Xh 0 0);clear hE Jn Jv Z Jm Jg hB Je Jp Jx Xp Xh hf Ja J_ Y Jf;generalize hv0:v 0=v0 at*;generalize Jf:v 1=v1 at*;generalize hj0:v0.toNat=j at*;have Yf:=ah hv0;have Yh:=ah Jf;have Xz:=ah hj0;clear hv0 Jf hj0;have Yc:W4.drew.cell? ⟨B,0,none⟩=some (sV nm):=(Xt.out 0 _ rfl).1;have Ju:W4.drew.cell? ⟨J,0,none⟩=some (V v0):=Ji;have Jr:W4.drew.cell? ⟨J,1,none⟩=some (V v1):=Jh;go_upto_region 15 with fail;rw[<-Xj.out,<-Xf.out];go_region_held3 (λW=>W.cell? ⟨B,0,none⟩=some (sV nm)/\W.cell? ⟨J,0,none⟩=some (V v0)) (go_simp)
   (first
   | ((with_reducible refine Calls.mono HE.out ?_);rintro e w5 ⟨rfl,rfl⟩))
  go_wp2_with fail;obtain⟨t0,t1,hQ⟩:=Jw.out;refine bodyPost_ret (v:=.agg #[V 0,V 0]) (by simp[results,results110,go_sem,t0,t1]) rfl ?_;rw[Yf.out,Yh.out,Xz.out];exact hQ.drew I
 ·have HE:=ah (rj I.out (Jl.out.below I.out Jp) hz hk hg (v:=v 0) (by rw[<-Ja];exact Y));have Jw:=ah (dN I.out Xg H0.out Xa.out Jo Ye.out Xd.out Xm.out Xe.out Je 4 0);clear Jn Jv Z Jm Jg hB Je Jp hf Ja J_ Y;generalize v 0=v0 at*;generalize v 1=v1 at*;have Yc:W4.drew.cell? ⟨B,0,none⟩=some (sV nm):=(Xt.out 0 _ rfl).1;have Ju:W4.drew.cell? ⟨J,0,none⟩=some (V v0):=Ji;have Jr:W4.drew.cell? ⟨J,1,none⟩=some (V v1):=Jh;go_upto_region 15 with fail;rw[<-Xj.out,<-Xf.out];go_region_held3 (λW=>W.cell? ⟨B,0,none⟩=some (sV nm)/\W.cell? ⟨J,0,none⟩=some (V v0)) (go_simp)
   (first
   | ((with_reducible refine Calls.mono HE.out ?_);rintro e w5 ⟨rfl,rfl⟩))
  go_wp2_with fail;obtain⟨t0,t1,hQ⟩:=Jw.out;exact bodyPost_ret (v:=.agg #[V 4,V 0]) (by simp[results,results110,go_sem,t0,t1]) rfl (hQ.drew I)
section
variable{T:GC}{xs:List BY}{f:Nat}
def DR(h:xB T (.agg xs.toArray) f)(w:AT)(I:xs.toArray.size<=1000:=by simp):∃W,W=w.alloc (.cells xs.toArray T)/\aK W w.heap.size xs:=⟨_,rfl,aH w xs.toArray T I⟩
theorem AA{C:IC}(Y:C.Ok){w:AT}{q:Nat}{vI I:BY}{z:ES}(h:IS C w (some q) vI I z)(hu:0<z.u){A:Nat}{us:Nat->BY}{st:Nat->ES}{v:Nat->Int}{s1:ES}{tu:GC}{xu:BY}{fn:Nat}{Jl:BY}{b:Bool}(hT:(T=218/\fn=70/\∃a1 n1 c1 a2 n2 c2,xs=[.iface tu xu,.slice a1 n1 c1,.slice a2 n2 c2]/\(b=true/\Jl=.slice a1 n1 c1∨b=false/\Jl=.slice a2 n2 c2))∨(T=220/\fn=147/\∃a1 n1 c1,xs=[.iface tu xu,.slice a1 n1 c1]/\b=true/\Jl=.agg #[.iface tu xu,.slice a1 n1 c1]))(hA:A=1){ec vc:Int}{z':ES}(hv:(v 0 != 0)=b)(Xr:∀(X:AT) (vI3 vO3:BY),IS C X (some q) vI3 vO3 (st A)->Calls prog fn #[pV C.P,Jl] X λx w'=>mU C X q vO3 ec vc z' x w')(hF:xB T (.agg xs.toArray) f)(hO:OpC C f (.agg xs.toArray) A us)(Xs:∀(X:AT) (ar:BY),IS C X (some q) vI I z.sp->rH C X I ar A us->Calls prog 144 #[pV C.P,ar] X λx w'=>rI C X (some q) I A st v A 2 s1 x w'):
  Calls prog 110 #[pV C.P,.iface T (.agg xs.toArray)] w λx w'=>mU C w q I ec vc z' x w':=by
 rcases hT with⟨rfl,rfl,a1,n1,c1,a2,n2,c2,rfl,⟨rfl,rfl⟩|⟨rfl,rfl⟩⟩|⟨rfl,rfl,a1,n1,c1,rfl,rfl,rfl⟩;all_goals
  have Ye:=ah hF;obtain⟨hm,Yn⟩:=hF;obtain⟨W0,M,Xk,hM,Js,Xf,Jh⟩:=gg w;have Xx:w.heap.size<=M:=Nat.le_of_eq hM.symm;have Jy:¬dt C (some q) I M:=λhk=>Ft (dt.lt Y h M hk)
  have Xe:=ah (dY Y (h.below Y Js) hu);have Xp:=ah hO;have H0:=ah h;have HC:=ah Y;have Yh:=ah Xk;have Xi:=ah Js;have HM:=ah hM;have Yd:=ah Xf;have J_:=ah Xs;have Jm:=λW v=>dD W 218 v d_;have Xn:=λW v=>ff W 218 v d_;have Jj:=λW v=>eh W 218 v d_;have Ya:=vd;have Ji:=λW v=>dD W 220 v d_;have Jw:=λW v=>ff W 220 v d_;have Jd:=λW v=>eh W 220 v d_;have Xj:=λW v=>ik W 220 v d_;have Jk:=jA;have HA:=ah hA;clear hA;clear h Y hO Xs Xk Js hM Xf hu;go_in;go_upto_region 1 with fail;rw[<-Yh.o,<-HM.o];go_wp2_with fail;refine Xe.o.mono ?_;rintro e w1 ⟨rfl,Jn,Jx⟩;have Xz:=ah Jn;have Xu:=ah Jx;have Yl:=ah (Yd.o.tcs Jh Jx (λe=>Jy (.inl e)));have Xd:=ah (Xp.o w1 (some q) vI I z.sp Jn);clear Jn Jx Xe;go_wp2_with fail;refine Xd.o.mono ?_;rintro e w2 ⟨a,cp,rfl,hL,Ju⟩;have Xl:=ah (J_.o w2 _ (Xz.o.below HC.o Ju) hL);have Yg:=ah Ju;clear hL Ju J_ Xp Xd;go_wp2_with fail;refine Xl.o.mono ?_;rintro e w3 ⟨vI3,vO3,Xo,Xq,Ja⟩;obtain⟨Xy,Yj,Jq,Xt,⟨U,f0⟩,⟨Z,f1⟩,Xv⟩:=iJ Xu Yl Yg Jh Jy Xo Xq;clear Xo Xq Xl;obtain⟨bv,cw,rfl,Xh,Jb,Ym,Je⟩:=mH Ja HA;have hI0:ak (cL C I) w w3:=(Xi.o.tcs (S:=cL C I)).trans Xy;clear Ja hI0;obtain⟨W4,Jr,Jo⟩:=DR Ye.o w3;have J:Bl w3 W4:=by rw[Jr];exact r_.alloc n_ _
  obtain⟨B,hB⟩:=q_ w3.heap.size;rw[<-hB]at Jo;have Yo:B≠M:=o_;have Yq:¬M=B:=o_;have Xc:=Xh.below HC.o J;have Jf:=Yj.o.below J;have Xa:=ah J;have Jz:=ah Jo;have X_:=ah Jr;have Xw:=ah hB;have Yc:=ah Jf;clear U f0 Z f1;obtain⟨U,f0⟩:=Jf 0 _ rfl;obtain⟨Z,f1⟩:=Jf 1 _ rfl;have Yp:bv<W4.heap.size:=l_ Jb J.size;have Jv:DO W4 bv 0 (V (v 0)):=(J.cell (p:=⟨bv,0,none⟩) Jb).trans Je;clear Je Jb;have Yi:=ah (Xr W4 vI3 vO3 Xc);have Jt:¬dt C (some q) vO3 M:=tp (w:=w) (λhk=>Ft (dt.lt HC.o H0.o _ hk)) Jy Jh Jq;have Yk:=ah (Xt.o.of_below Xa);have Yf:M<W4.heap.size:=b_ U;have x0:=(Jz.o 0 _ rfl).1;have x1:=(Jz.o 1 _ rfl).1;generalize hv0:v 0=v0 at hv Jv;clear Xr Xh Xc J Jo Jr hB Jf hv0 U f0 Z f1;first
  | (have x2:=(Jz.o 2 _ rfl).1;go_upto_region 21 with fail)
  | go_upto_region 26 with fail
  rw[<-X_.o,<-Xw.o];go_wp2_with fail;refine Yi.o.mono ?_;rintro e w5 ⟨Yr,Ys,rfl,Xg,Jp,Xb⟩;have Jg:=Yc.o.tcs Yf Jp Jt;have Xm:=dt.next Yk.o Jp Jq;have Yb:=ah (dN HC.o Xx H0.o Xi.o Jh Xg Xm (λk hk=>by
   rcases Xb k hk with h1|h1
   ·exact Jq.o k h1
   ·exact .inr (t_ (t_ Xv Xa.o.size) h1)) r_ Jg ec vc)
  obtain⟨U,f0⟩:=Jg 0 _ rfl;obtain⟨Z,f1⟩:=Jg 1 _ rfl;clear Xg Jp Xb Jg Xm;go_wp2_with fail;obtain⟨t0,t1,hQ⟩:=Yb.o;exact bodyPost_ret (v:=.agg #[V ec,V vc]) (by simp[results,results110,go_sem,t0,t1]) rfl hQ
end
def xj{C:IC}(U:C.Ok){w:AT}{q:Nat}{vI I:BY}{z:ES}(h:IS C w (some q) vI I z)(hu:0<z.u){A:Nat}{f:Nat}{us:Nat->BY}{st:Nat->ES}{v:Nat->Int}{s1:ES}{Y:GC}{xu:BY}{a1:Option Addr}{n1 Z:Nat}(hA:A=1)(hv:v 0=0)(hF:xB 220 (.agg #[.iface Y xu,.slice a1 n1 Z]) f)(hO:OpC C f (.agg #[.iface Y xu,.slice a1 n1 Z]) A us)(Xd:∀(X:AT) (ar:BY),IS C X (some q) vI I z.sp->rH C X I ar A us->Calls prog 144 #[pV C.P,ar] X λx w'=>rI C X (some q) I A st v A 2 s1 x w'):
  Calls prog 110 #[pV C.P,.iface 220 (.agg #[.iface Y xu,.slice a1 n1 Z])] w λx w'=>mU C w q I 0 0 (st A) x w':=by
 obtain⟨hm,Xy⟩:=hF;obtain⟨W0,M,Jx,hM,Jl,Jv,Jn⟩:=gg w;have Xi:w.heap.size<=M:=Nat.le_of_eq hM.symm;have Jz:¬dt C (some q) I M:=λhk=>Ft (dt.lt U h M hk)
 obtain⟨Ju,Xb,H0,HC,Xs,Jw,HM,Xq,Jr⟩:=h9 (dY U (h.below U Jl) hu) hO h U Jx Jl hM Jv Xd;have Ji:=λW v=>dD W 220 v d_;have J_:=λW v=>ff W 220 v d_;have Jg:=λW v=>eh W 220 v d_;have Xm:=λW v=>ik W 220 v d_;have Jh:=jA;have HA:=ah hA;clear hA;clear h U hO Xd Jx Jl hM Jv hu;go_in;go_upto_region 1 with fail;rw[<-Xs.o,<-HM.o];go_wp2_with fail;refine Ju.o.mono ?_;rintro e w1 ⟨rfl,Jj,Jq⟩;obtain⟨Xk,Xf,Xu,Jt⟩:=h4 Jj Jq (Xq.o.tcs Jn Jq (λe=>Jz (.inl e))) (Xb w1 (some q) vI I z.sp Jj);clear Jj Jq Ju;go_wp2_with fail;refine Jt.o.mono ?_;rintro e w2 ⟨a,cp,rfl,hL,Jo⟩;obtain⟨Jy,Xr⟩:=h2 (Jr w2 _ (Xk.o.below HC Jo) hL) Jo;clear hL Jo Jr Xb Jt;go_wp2_with fail;refine Jy.o.mono ?_;rintro e w3 ⟨Yd,Ya,Xa,Xc,Ja⟩;obtain⟨Xj,Xt,Xn,Xe,⟨y0,f0⟩,⟨y1,f1⟩,Xv⟩:=iJ Xf Xu Xr Jn Jz Xa Xc;clear Xa Xc Jy;obtain⟨bv,cw,rfl,Jm,Jb,Xw,Jd⟩:=mH Ja HA;have hI0:ak (cL C I) w w3:=(Jw.o.tcs (S:=cL C I)).trans Xj;clear Ja hI0;obtain⟨W4,Jf⟩:=q_ (w3.alloc (.cells #[.iface Y xu,.slice a1 n1 Z] 220));have J:Bl w3 W4:=by rw[Jf];exact r_.alloc n_ _
 have Jk:aK W4 w3.heap.size [.iface Y xu,.slice a1 n1 Z]:=by rw[Jf];exact aH w3 _ _ i_
 obtain⟨B,hB⟩:=q_ w3.heap.size;rw[<-hB]at Jk;have Xz:B≠M:=o_;have Yc:¬M=B:=o_;have Js:=Jm.below HC J;have Je:=Xt.o.below J;obtain⟨Xg,Yb,Xl,Xh,Xx,Xp⟩:=h6 J Jk Jf hB Js Je;clear y0 f0 y1 f1;obtain⟨y0,f0⟩:=Je 0 _ rfl;obtain⟨y1,f1⟩:=Je 1 _ rfl;have X_:bv<W4.heap.size:=l_ Jb J.size;have Jp:DO W4 bv 0 (V (v 0)):=(J.cell (p:=⟨bv,0,none⟩) Jb).trans Jd;clear Jd Jb;have Xo:=ah (dN HC Xi H0 Jw Jn Jm Xe Xn Xg Xp 0 0);rw[hv]at Jp;clear Jm Js J Jk Jf hB Je hv;go_upto_region 26 with fail;rw[<-Xl.o,<-Xh.o];go_wp2_with fail;obtain⟨t0,t1,hQ⟩:=Xo;exact bodyPost_ret (v:=.agg #[V 0,V 0]) (by simp[results,results110,go_sem,t0,t1]) rfl hQ
theorem B5{C:IC}(hC:C.Ok){w:World}{q:Nat}{vI U:Value}{z:ES}(h:IS C w (some q) vI U z)(hu:0<z.u){A:Nat}{f:Nat}{us:Nat->Value}{st:Nat->ES}{v:Nat->Int}{s1:ES}{tu:TypeId}{xu:Value}(hA:A=1)(Yb:(st A).o.length+1+(st A).u<=100000)(hF:xB 221 (.agg #[.iface tu xu]) f)(hO:OpC C f (.agg #[.iface tu xu]) A us)(Yc:∀(X:World) (ar:Value),IS C X (some q) vI U z.sp->rH C X U ar A us->Calls prog 144 #[pV C.P,ar] X λx w'=>rI C X (some q) U A st v A 2 s1 x w'):
  Calls prog 110 #[pV C.P,.iface 221 (.agg #[.iface tu xu])] w λx w'=>mU C w q U 0 0 {st A with o:=(st A).o++[v 0]} x w':=by
 obtain⟨hm,Y_⟩:=hF;obtain⟨W0,M,Xs,hM,Jy,Xm,Jo⟩:=gg w;have Yg:w.heap.size<=M:=Nat.le_of_eq hM.symm;have Xe:¬dt C (some q) U M:=λhk=>by have:=dt.lt hC h M hk;omega
 obtain⟨Xl,Xw,H0,Y,Yt,Xq,HM,Yo,Xf⟩:=h9 (dY hC (h.below hC Jy) hu) hO h hC Xs Jy hM Xm Yc;have Js:=λW v=>dD W 221 v d_;have Xu:=λW v=>ff W 221 v d_;have Jp:=λW v=>eh W 221 v d_;have Yk:=λW v=>ik W 221 v d_;have Jr:=λW v=>im W 221 v d_;have Jg:=λW v=>jB W 221 v d_;have Xg:=sh;have HA:=ah hA;clear hA;clear h hC hO Yc Xs Jy hM Xm hu;go_in;go_upto_region 1 with fail;rw[<-Yt.out,<-HM.out];go_wp2_with fail;refine Xl.out.mono ?_;rintro e w1 ⟨rfl,Ju,Xc⟩;obtain⟨Yi,Ye,Yw,Xk⟩:=h4 Ju Xc (Yo.out.tcs Jo Xc (λe=>Xe (.inl e))) (Xw w1 (some q) vI U z.sp Ju);clear Ju Xc Xl;go_wp2_with fail;refine Xk.out.mono ?_;rintro e w2 ⟨a,cp,rfl,hL,Jz⟩;obtain⟨Xt,Yr⟩:=h2 (Xf w2 _ (Yi.out.below Y Jz) hL) Jz;clear hL Jz Xf Xw Xk;go_wp2_with fail;refine Xt.out.mono ?_;rintro e w3 ⟨Ze,Yp,Xv,Xx,Ja⟩;obtain⟨Yh,Yv,Jx,Yd,⟨y0,f0⟩,⟨y1,f1⟩,Yf⟩:=iJ Ye Yw Yr Jo Xe Xv Xx;clear Xv Xx Xt;obtain⟨I,cw,rfl,Xo,Je,Xh,Jl⟩:=mH Ja HA;have hI0:ak (cL C U) w w3:=(Xq.out.tcs (S:=cL C U)).trans Yh;clear Ja hI0;obtain⟨W4,Jn⟩:=q_ (w3.alloc (.cells #[.iface tu xu] 221));have Jf:Bl w3 W4:=by rw[Jn];exact r_.alloc n_ _
 have Jt:aK W4 w3.heap.size [.iface tu xu]:=by rw[Jn];exact aH w3 _ _ (by show 1<=1000;omega)
 obtain⟨B,hB⟩:=q_ w3.heap.size;rw[<-hB]at Jt;have Za:B≠M:=o_;have Zd:¬M=B:=o_;have Jw:=Xo.below Y Jf;have Jh:=Yv.out.below Jf;obtain⟨Xi,Zc,Yj,Yy,Yz,Zb⟩:=h6 Jf Jt Jn hB Jw Jh;clear y0 f0 y1 f1;obtain⟨y0,f0⟩:=Jh 0 _ rfl;obtain⟨y1,f1⟩:=Jh 1 _ rfl;have J_:I<W4.heap.size:=l_ Je Jf.size;have Jk:W4.cell? ⟨I,0,none⟩=some (V (v 0)):=(Jf.cell (p:=⟨I,0,none⟩) Je).trans Jl;clear Jl Je;obtain⟨W5,Xb⟩:=q_ W4.drew;have Jd:Bl W4 W5:=by rw[Xb];exact r_.drew
 have Jj:=Jw.below Y Jd;obtain⟨va,vc,Z,r7,Xn,⟨x7,f7⟩,t7,Xd,o7⟩:=B_ Y (v 0) Jj Yb;obtain⟨W6,Jm⟩:=q_ (W5.alloc (.cells #[V (v 0)] 2));rw[<-Jm]at r7;have Xa:Bl W5 W6:=by rw[Jm];exact r_.alloc n_ _
 have Jb:I<W5.heap.size:=l_ J_ Jd.size;have Jq:W5.cell? ⟨I,0,none⟩=some (V (v 0)):=(Jd.cell (p:=⟨I,0,none⟩) J_).trans Jk;have Xp:W6.cell? ⟨I,0,none⟩=some (V (v 0)):=(Xa.cell (p:=⟨I,0,none⟩) Jb).trans Jq;have Xj:Z.cell? ⟨I,0,none⟩=some (V (v 0)):=(c_ (a:=⟨I,0,none⟩) (t7.block I Jb Xh)).trans Jq;have Xy:=(Jj.box 7 _ rfl).1;have Xr:=((Jj.below Y Xa).box 7 _ rfl).1;have Jc:¬dt C (some q) Yp M:=tp (w:=w) (λhk=>by have:=dt.lt Y.out H0.out _ hk;omega) Xe Jo Jx;have Ji:=Jh.below Jd;have Zf:C.P≠M:=λe=>by have:=(H0.out.hi Y.out).1;omega
 have Jv:aK Z M [V 0,V 0]:=Ji.tcs (b_ (Ji 0 _ rfl).1) t7 (λe=>Jc (.inl e));have Ya:aK (Z.setCell ⟨C.P,7,none⟩ (.slice va ((st A).o.length+1) vc)) M [V 0,V 0]:=Ji.tcs (b_ (Ji 0 _ rfl).1) Xd (λe=>Jc (.inl e));have Xz:ak (dt C (some q) U) W0 (Z.setCell ⟨C.P,7,none⟩ (.slice va ((st A).o.length+1) vc)):=dt.next ((Yd.out.of_below Xi).of_below Jd) (dt.of Xd) Jx;have Yl:=ah (dN Y Yg H0 Xq Jo Xn Xz (λk hk=>by
  rcases o7 k hk with h1|h1
  ·exact Jx k h1
  ·exact .inr (t_ (t_ Yf Xi.out.size) (t_ Jd.size h1))) r_ Ya 0 0)
 obtain⟨La,Lc,eL,-⟩:=bj Jj.out;subst eL;generalize hll:(st A).o.length=ol at*;generalize hv0:v 0=v0 at*;obtain⟨Yx,Yq⟩:=h2 hll hv0;clear hv0;obtain⟨Yu,Ys,Yn⟩:=h3 r7 Xb Jm;have J:Hid (W5.cell? ⟨C.P,7,none⟩=some (.slice La ol Lc)/\W5.cell? ⟨I,0,none⟩=some (V v0)):=⟨Xy,Jq⟩;have Ym:Hid (W6.cell? ⟨C.P,7,none⟩=some (.slice La ol Lc)/\W6.cell? ⟨I,0,none⟩=some (V v0)):=⟨Xr,Xp⟩;have X_:Hid (Z.cell? ⟨C.P,7,none⟩=some (.slice La ol Lc)/\Z.cell? ⟨I,0,none⟩=some (V v0)):=⟨x7,Xj⟩;clear y0 f0 y1 f1;obtain⟨y0,f0⟩:=Jv 0 _ rfl;obtain⟨y1,f1⟩:=Jv 1 _ rfl;clear hll r7 Xb Jm Xo Jw Jf Jt Jn hB Jh Jj Xn t7 Xd o7 Jd Xa Jb Jq Xp Xj Xy Xr Jc Ji Jv Ya Xz Jk J_ Xh Yb;go_upto_region 33 with fail;rw[<-Yj.out];refine aM 12 (λX=>X.cell? ⟨C.P,7,none⟩=some (.slice La ol Lc)/\X.cell? ⟨I,0,none⟩=some (V v0)) k_ ?_;rw[<-Ys.out];refine tk 0 [10,11,12] J ?_;refine tk 1 [2,3,4,9,12] J ?_;refine tk 2 [3,4,9,12] J ?_;refine tk 3 [4,9,12] J ?_;refine tk 4 [9,12] J ?_;refine tk 5 [6,7,8,9,12] J ?_;refine tk 6 [7,8,9,12] J ?_;refine tk 7 [8,9,12] J ?_;clear J;refine aq (i:=8) k_ rfl (λK hK=>?_);go_simp;rw[<-Yn.out];refine hK.out _ _ (λ_=>Ym) ?_;clear hK K;try simp only[Act.put,tA,tB,tC]
 refine aq (i:=9) k_ rfl (λK hK=>?_);refine cJ rfl (.tmp 108) (.tmp 112) 26 rfl (.slice La ol Lc) (rV W5.heap.size 1 1) (.slice va (ol+1) vc) Z rfl rfl Yu ?_;refine hK.out _ _ (λ_=>X_) ?_;clear hK K;try simp only[Act.put,tA,tB,tC]
 have J:=X_;refine tk 10 [11,12] J ?_;refine tk 11 [12] J ?_;clear J;refine aq (i:=12) k_ rfl (λK hK=>?_);go_simp;refine hK.out _ _ (λh=>absurd rfl h) ?_;clear hK K;refine aJ k_ ?_ _;go_wp2_with fail;obtain⟨t0,t1,hQ⟩:=Yl;refine bodyPost_ret (v:=.agg #[V 0,V 0]) (by simp[results,results110,go_sem,t0,t1]) rfl ?_;rw[Yq.out];exact hQ
section
variable{C:IC}{w:AT}{q:Nat}{vI vO:BY}{z:ES}
def DS(I:C.Ok)(h:IS C w (some q) vI vO z)(hu:z.u=0)(t:GC)(x:BY):Calls prog 110 #[pV C.P,.iface t x] w λx w'=>mU C w q vO 3 0 z x w':=by
 obtain⟨W0,M,Z,Y,U,J,Jf⟩:=gg w;obtain⟨Jh,Jd⟩:=h2 (pP (h.below I U) hu) (dN I (Nat.le_of_eq Y.symm) h U Jf (h.below I U) (ak.refl _ _) (λk hk=>.inl hk) r_ J 3 0);obtain⟨y0,f0⟩:=J 0 _ rfl;obtain⟨y1,f1⟩:=J 1 _ rfl;obtain⟨HC,Je,HM⟩:=h3 I Z Y;clear h I hu Z Y U J;go_in;go_upto_region 1 with fail;rw[<-Je.o,<-HM.o];go_wp2_with fail;refine Jh.o.mono ?_;rintro e w1 ⟨rfl,Jg⟩;rw[Jg];go_wp2_with fail;obtain⟨t0,t1,hQ⟩:=Jd;exact bodyPost_ret (v:=.agg #[V 3,V 0]) (by simp[results,results110,go_sem,t0,t1]) rfl hQ
def DT(U:C.Ok)(h:IS C w (some q) vI vO z)(hu:0<z.u){A:Nat}{f:Nat}{us:Nat->BY}{st:Nat->ES}{v:Nat->Int}{j:Nat}{c I:Int}(Js:I=c+1){s1:ES}(hj:j<A)(hc:c=2∨c=3){t:GC}{x:BY}(hF:xB t x f)(hO:OpC C f x A us)(Jr:∀(X:AT) (ar:BY),IS C X (some q) vI vO z.sp->rH C X vO ar A us->Calls prog 144 #[pV C.P,ar] X λx w'=>rI C X (some q) vO A st v j c s1 x w'):
  Calls prog 110 #[pV C.P,.iface t x] w λx w'=>mU C w q vO I 0 s1 x w':=by
 obtain⟨hm,Xj⟩:=hF;obtain⟨W0,M,Jj,Y,Jc,Jp,Je⟩:=gg w;have Jz:w.heap.size<=M:=Nat.le_of_eq Y.symm;have Jn:¬dt C (some q) vO M:=λhk=>Ft (dt.lt U h M hk)
 obtain⟨Jo,Jh,H0,HC,Jx,Ju,HM,Jy,Jg,Jm⟩:=h10 (dY U (h.below U Jc) hu) hO h U Jj Jc Y Jp Jr Js;clear Js;clear h U hO Jr Jj Jc Y Jp hu;go_in;go_upto_region 1 with fail;rw[<-Jx.o,<-HM.o];go_wp2_with fail;refine Jo.o.mono ?_;rintro e w1 ⟨rfl,Jb,Jd⟩;obtain⟨Xb,Jv,Xe,Jl⟩:=h4 Jb Jd (Jy.o.tcs Je Jd (λe=>Jn (.inl e))) (Jh w1 (some q) vI vO z.sp Jb);clear Jb Jd Jo;go_wp2_with fail;refine Jl.o.mono ?_;rintro e w2 ⟨a,cp,rfl,hL,Z⟩;obtain⟨Jk,Xd⟩:=h2 (Jg w2 _ (Xb.o.below HC Z) hL) Z;clear hL Z Jg Jh Jl;go_wp2_with fail;refine Jk.o.mono ?_;rintro e w3 ⟨Xa,Xc,Jq,Ji,Ja⟩;obtain⟨Xi,J_,Xf,Jt,⟨y0,f0⟩,⟨y1,f1⟩,Xg⟩:=iJ Jv Xe Xd Je Jn Jq Ji;clear Jq Ji Jk;obtain⟨rfl,J⟩:e=rW (.tuple #[nV,V I])/\IS C w3 (some q) Xa Xc s1:=by
  rw[Jm.o];rcases Ja with⟨e1,-⟩|⟨-,e1,e2⟩
  ·omega
  ·exact⟨e1,e2⟩
 have Xh:(I != 0)=true:=by have:=Jm.o;simp;omega
 have Jw:=ah (dN HC Jz H0 Ju Je J Jt Xf r_ J_ I 0);clear Ja J;go_wp2_with fail;obtain⟨t0,t1,hQ⟩:=Jw;exact bodyPost_ret (v:=.agg #[V I,V 0]) (by simp[results,results110,go_sem,t0,t1]) rfl hQ
end
section
variable{C:IC}{w X:AT}{q:Nat}{vI vO vI3 vO3:BY}{z y:ES}{x:GA}{v:Int}
def rA(I:C.Ok)(h:IS C w (some q) vI vO z)(hy:IS C X (some q) vI3 vO3 y)(ht:ak (cL C vO) w X)(hl:y.l=z.l)(hu:y.u+1<=z.u)(hz:x.size<=maxLen)(hg:gV C.t.globals x=none)(hv:et v){J:List (GA×Int)}(Jb:∀p u,(p,u)∈J->(p=x/\u=v)∨(p≠x/\(p,u)∈y.l)):
  Calls prog 145 #[pV C.P,sV x,V v] X λe w'=>e=rW (.tuple #[])/\IS C w' (some q) vI3 vO3 {y with l:=J}/\ak (dt C (some q) vO3) X w':=by
 rcases h.var with⟨e,-⟩|⟨b,n,D,e,Y,h2,h3,h4,h5⟩
 ·cases e
 ·cases e
  obtain⟨q1,q2,q3,q4,Z⟩:=I.pg;have U:=bK Y ht (λhk=>by
   rcases hk with hk|hk|hk
   ·omega
   ·have:=(Z q hk).2;omega
   ·exact h5 hk)
  refine(BN I hy U (by rw[hl];exact h2) o_ hz hg hv Jb).mono λe w' hE=>?_;exact⟨hE.1,hE.2.1,hE.2.2.mono λk hk=>.inr (by have e:k=q:=hk;rw[e])⟩
def DU(hC:C.Ok)(h:IS C w (some q) vI vO z)(hy:IS C X (some q) vI3 vO3 y)(ht:ak (cL C vO) w X)(Z:y.l=z.l)(hu:y.u+1<=z.u)(Jb:jd C.t (z.l.map Prod.fst))(hz:x.size<=maxLen)(J:x∈z.l.map Prod.fst∨(x∉z.l.map Prod.fst/\globI C.t.globals x=0))(hv:et v):
  Calls prog 145 #[pV C.P,sV x,V v] X λe w'=>e=rW (.tuple #[])/\IS C w' (some q) vI3 vO3 (y.wr C.t x v)/\ak (dt C (some q) vO3) X w':=by
 rcases J with J|⟨J,hg⟩
 ·have U:=J;rw[<-Z]at U;obtain⟨j,hj,Y,h2⟩:=kV.1 U;have hs:y.wr C.t x v={y with l:=y.l.set j (x,v)}:=by unfold ES.wr;rw[Y]
  rw[hs];have Jd:(y.l.map Prod.fst).Nodup:=by rw[Z];exact Jb.1
  refine rA hC h hy ht Z hu hz (uA hC Jb J) hv (λp u hp=>?_);obtain⟨i,hi,I⟩:=getElem_of_mem hp;rw[length_set]at hi;rw[getElem_set]at I;by_cases hij:j=i
  ·rw[if_pos hij]at I;cases I
   exact .inl ⟨rfl,rfl⟩
  ·rw[if_neg hij]at I;refine .inr ⟨λe=>hij ?_,I ▸ g_ hi⟩;refine iz Jd (Fc hj) (Fc hi) ?_;rw[getElem_map,getElem_map,h2,I,e]
 ·obtain⟨k,Jc,Y,h2⟩:=eK (gs:=C.t.globals) (x:=x) o_;have U:x∉y.l.map Prod.fst:=by rw[Z];exact J
  have hs:y.wr C.t x v={y with g:=y.g.set k ((y.g.getD k []).set 0 v)}:=by unfold ES.wr;rw[iA U,Y]
  rw[hs];exact(BO hC hy hz Jc Y hv).mono λe w' hE=>⟨hE.1,hE.2.1,dt.of hE.2.2⟩
def B6{I:Option Nat}{A:Nat}{st:Nat->ES}{v:Nat->Int}{c:Int}{J:ES}{x:Ending}{w':AT}(h:rI C w I vO A st v A c J x w'):rI C w I vO A st v A 2 J x w':=by
 obtain⟨a,b,U,h2,h3|⟨h3,-⟩⟩:=h
 ·exact⟨a,b,U,h2,.inl h3⟩
 ·omega
def ku{s:St}(h:stmtB s=true)(J:s.kind<=3):s.name.size<=20:=by
 simp only[stmtB,GE]at h;have I:=h.1.1.1.1.1.2;rw[if_pos J]at I;have:lu s.name:=by simpa[aY]using I
 exact this.2.1
def FZ(C:IC)(n:Nat):Prop:=∀(s:St) (a b:List St) (us:Nat->BY) (sv:BY) (z:ES) (ec vc:Int) (z':ES),Lk C.t C.fr n s a b z ec vc z'->yi C.t (z.l.map Prod.fst) s->jd C.t (z.l.map Prod.fst)->stmtB s=true->(s.kind=4∨s.kind=5->kX C.t (z.l.map Prod.fst) a/\kX C.t (z.l.map Prod.fst) b)->EW C sv s a b us->(∀i,i<eS s->Tv C.w0 C.S (us i) (xh s i))->∀(w:AT) (q:Nat) (vI vO:BY),IS C w (some q) vI vO z->Calls prog 110 #[pV C.P,sv] w λx w'=>mU C w q vO ec vc z' x w'
def DV{r:ER}(h:bW r≠0):mG r=bW r:=by unfold mG;rw[if_neg h]
theorem AB(J:C.Ok){n:Nat}(IH:DH C n)(IB:Ff C n):FZ C n:=by
 intro s a b us sv z ec vc z' Xg Jq Js Jo Xb Jh Xh w q vI vO h;have Jw:∀i,i<eS s->∃t x,us i=.iface t x:=λi hi=>(Xh i hi).isI;obtain⟨t,x,f,U,hF,hO⟩:=rx J Jh Jw;by_cases hu:z.u=0
 ·rcases Xg with⟨-,rfl,rfl,rfl⟩|⟨h1,-⟩
  ·rw[U];exact DS J h hu t x
  ·omega
 ·have Je:0<z.u:=o_
  obtain⟨st,v,j,c,s1,h0,Jv,hc,Jn⟩:=Xg.ops Je Jq Jo;have Jr:OkW (st 0):=by rw[h0];exact⟨h.ok.g,h.ok.l,h.ok.i⟩
  have Jy:(st 0).l=z.l:=by rw[h0];rfl
  have J_:∀(X:AT) (ar:BY),IS C X (some q) vI vO z.sp->rH C X vO ar (eS s) us->Calls prog 144 #[pV C.P,ar] X λx w'=>rI C X (some q) vO (eS s) st v j c s1 x w':=λX ar hX hL=>mE J IH Jv hc (by rw[Jy];exact Js) (by rw[h0];exact hX) hL Xh;rcases Jn with⟨hj,rfl,rfl,rfl⟩|⟨hj,hR⟩
  ·rw[U];exact DT J h Je rfl hj hc hF hO J_
  ·subst hj;have Ja:∀(X:AT) (ar:BY),IS C X (some q) vI vO z.sp->rH C X vO ar (eS s) us->Calls prog 144 #[pV C.P,ar] X λx w'=>rI C X (some q) vO (eS s) st v (eS s) 2 s1 x w':=λX ar hX hL=>(J_ X ar hX hL).mono λx w' hE=>B6 hE;obtain⟨Xp,Xk,Xf⟩:=Jv.l Jr (eS s) n_;have Jf:(st (eS s)).l=z.l:=Xk.trans Jy;have Ju:Ou 0 (st 0) (st (eS s)):=j9 (λi hi=>(Jv.kid i hi).ou) (eS s) n_;rw[h0]at Ju;have Xd:(st (eS s)).u+1<=z.u:=by have:=Ju.1;simp only[ES.sp]at this;omega
   have Jm:0<eS s:=by unfold eS;split <;> omega
   have Ji:s.kind≠3->eS s=1:=λh=>by unfold eS;rw[if_neg h]
   have Jp:s.kind=3->eS s=2:=λh=>by unfold eS;rw[if_pos h]
   obtain⟨tu,xu,Jk⟩:=Jw 0 Jm;have Xe:=Xf 0 Jm;have Jl:∀ {l:List St} {L:List (BY×List St)} {vb:BY} {r:ER},Ev C.t C.fr n (.bl l) (st (eS s)) r z'->kX C.t (z.l.map Prod.fst) l->l=dd L->pT C.w0 C.S vb L->∀(X:AT) (vI3 vO3:BY),IS C X (some q) vI3 vO3 (st (eS s))->Calls prog 70 #[pV C.P,vb] X λx w'=>mU C X q vO3 (bW r) (cI r) z' x w':=λ{l L vb r} hE hl he hb X vI3 vO3 hX=>by
    subst he;exact IB L _ r z' hE (by rw[Jf];exact hl) (by rw[Jf];exact Js) X q vI3 vO3 vb hX hb
   rcases hR with⟨hk,rfl,rfl,rfl⟩|⟨hk,rfl,rfl,rfl⟩|⟨hk,hR⟩|⟨hk,r,rfl,rfl,hR⟩|⟨hk,hR⟩|⟨hk,rfl,rfl,rfl⟩|⟨hk,rfl,rfl,rfl⟩|⟨hk,rfl,rfl,rfl⟩
   ·obtain⟨Xo,Xn⟩:=Jq.decl hk;rcases Jh with⟨h9,rfl⟩|⟨h9,rfl⟩|⟨h9,rfl⟩|⟨h9,va,vb,La,Lb,rfl,I,Z,Jg,Jj⟩|⟨h9,va,La,rfl,I,Z⟩|⟨h9,rfl⟩|⟨h9,rfl⟩|⟨h9,rfl⟩ <;> first|omega|skip;rw[Jk]at U⊢;cases U
    refine uE (.inl rfl) J h Je (Ji o_) (λX vI3 vO3 hX ht=>?_) hF hO Ja;refine rA J h hX ht Jf Xd (fL (ku Jo o_) d_) (pQ (lj J.snd) Xn) Xe (λp u hp=>?_);rcases GJ.1 hp with hp|hp
    ·refine .inr ⟨λe=>Xo ?_,hp⟩;rw[<-e,<-Jf];exact mem_map.2 ⟨_,hp,rfl⟩
    ·simp only[GM,Prod.mk.injEq]at hp;exact .inl hp
   ·rcases Jh with⟨h9,rfl⟩|⟨h9,rfl⟩|⟨h9,rfl⟩|⟨h9,va,vb,La,Lb,rfl,I,Z,Jg,Jj⟩|⟨h9,va,La,rfl,I,Z⟩|⟨h9,rfl⟩|⟨h9,rfl⟩|⟨h9,rfl⟩ <;> first|omega|skip;rw[Jk]at U⊢;cases U
    exact uE (.inr rfl) J h Je (Ji o_) (λX vI3 vO3 hX ht=>DU J h hX ht Jf Xd Js (fL (ku Jo o_) d_) (Jq.set hk) Xe) hF hO Ja
   ·obtain⟨-,hg⟩:=Jq.store hk;obtain⟨k,Xc,Jx,-⟩:=eK (gs:=C.t.globals) (x:=s.name) o_;obtain⟨tv,xv,Xj⟩:=Jw 1 (by rw[Jp hk];omega);have Xm:=Xf 1 (by rw[Jp hk];omega);rcases Jh with⟨h9,rfl⟩|⟨h9,rfl⟩|⟨h9,rfl⟩|⟨h9,va,vb,La,Lb,rfl,I,Z,Jg,Jj⟩|⟨h9,va,La,rfl,I,Z⟩|⟨h9,rfl⟩|⟨h9,rfl⟩|⟨h9,rfl⟩ <;> first|omega|skip;rw[Jk,Xj]at U⊢;cases U
    have Xa:=fL (ku Jo o_) d_;rcases hR with⟨Xl,rfl,rfl,rfl⟩|⟨hy,rfl,rfl,rfl⟩
    ·exact ry J h Je (Jp hk) Xa Xc Jx (.inr ⟨Xl,rfl,rfl⟩) hF hO Ja
    ·have e:(st (eS s)).st C.t s.name (v 0).toNat (v 1)={st (eS s)with g:=(st (eS s)).g.set k (((st (eS s)).g.getD k []).set (v 0).toNat (v 1))}:=by unfold ES.st;rw[Jx]
     rw[e];exact ry J h Je (Jp hk) Xa Xc Jx (.inl ⟨hy,Xm,rfl,rfl⟩) hF hO Ja
   ·obtain⟨Jt,Jz⟩:=Xb (.inl hk);rcases Jh with⟨h9,rfl⟩|⟨h9,rfl⟩|⟨h9,rfl⟩|⟨h9,va,vb,La,Lb,rfl,I,Z,Jg,Jj⟩|⟨h9,va,La,rfl,I,Z⟩|⟨h9,rfl⟩|⟨h9,rfl⟩|⟨h9,rfl⟩ <;> first|omega|skip;obtain⟨a1,c1,rfl,-⟩:=I.args;obtain⟨a2,c2,rfl,-⟩:=Jg.args;rw[Jk]at U⊢;cases U
    rcases hR with⟨hv,hE⟩|⟨hv,hE⟩
    ·exact AA J h Je (.inl ⟨rfl,rfl,_,_,_,_,_,_,rfl,.inl ⟨rfl,rfl⟩⟩) (Ji o_) (Fc hv) (Jl hE Jt Z I) hF hO Ja
    ·exact AA J h Je (.inl ⟨rfl,rfl,_,_,_,_,_,_,rfl,.inr ⟨rfl,rfl⟩⟩) (Ji o_) (Fc hv) (Jl hE Jz Jj Jg) hF hO Ja
   ·obtain⟨Jt,Jz⟩:=Xb (.inr hk);rcases Jh with⟨h9,rfl⟩|⟨h9,rfl⟩|⟨h9,rfl⟩|⟨h9,va,vb,La,Lb,rfl,I,Z,Jg,Jj⟩|⟨h9,va,La,rfl,I,Z⟩|⟨h9,rfl⟩|⟨h9,rfl⟩|⟨h9,rfl⟩ <;> first|omega|skip;obtain⟨a1,c1,rfl,-⟩:=I.args;rw[Jk]at U⊢;cases U
    rcases hR with⟨hv,rfl,rfl,rfl⟩|⟨hv,r,hE,hr⟩
    ·exact xj J h Je (Ji o_) hv hF hO Ja
    ·have hT:∀(X:AT) (vI3 vO3:BY),IS C X (some q) vI3 vO3 (st (eS s))->Calls prog 147 #[pV C.P,.agg #[.iface tu xu,.slice a1 La.length c1]] X λx w'=>mU C X q vO3 (mG r) (cI r) z' x w':=λX vI3 vO3 hX=>Ay J hX (λY hY=>Jl hE Jt Z I Y vI3 vO3 hY);have e:ec=mG r/\vc=cI r:=by
      rcases hr with⟨rfl,rfl,rfl⟩|⟨Xi,rfl,rfl⟩
      ·exact⟨rfl,rfl⟩
      ·refine⟨(DV λe=>?_).symm,rfl⟩;cases r using ER.cs with
       | val v=>exact hE.nov rfl v rfl
       | on=>exact Xi rfl
       | ret v=>exact absurd e (by decide:(2:Int)≠0)
       | out c=>rcases hE.outc c rfl with e1|e1 <;> (subst e1;exact absurd e d_)
     rw[e.1,e.2];exact AA J h Je (.inr ⟨rfl,rfl,_,_,_,rfl,rfl,rfl⟩) (Ji o_) (Fc hv) hT hF hO Ja
   ·rcases Jh with⟨h9,rfl⟩|⟨h9,rfl⟩|⟨h9,rfl⟩|⟨h9,va,vb,La,Lb,rfl,I,Z,Jg,Jj⟩|⟨h9,va,La,rfl,I,Z⟩|⟨h9,rfl⟩|⟨h9,rfl⟩|⟨h9,rfl⟩ <;> first|omega|skip;rw[Jk]at U⊢;cases U
    exact xi J h Je (Ji o_) hF hO Ja
   ·rcases Jh with⟨h9,rfl⟩|⟨h9,rfl⟩|⟨h9,rfl⟩|⟨h9,va,vb,La,Lb,rfl,I,Z,Jg,Jj⟩|⟨h9,va,La,rfl,I,Z⟩|⟨h9,rfl⟩|⟨h9,rfl⟩|⟨h9,rfl⟩ <;> first|omega|skip;rw[Jk]at U⊢;cases U
    refine B5 J h Je (Ji o_) ?_ hF hO Ja;have h1:=Ju.2.1;have h2:=h.uu.2;simp only[ES.sp]at h1;omega
   ·rcases Jh with⟨h9,rfl⟩|⟨h9,rfl⟩|⟨h9,rfl⟩|⟨h9,va,vb,La,Lb,rfl,I,Z,Jg,Jj⟩|⟨h9,va,La,rfl,I,Z⟩|⟨h9,rfl⟩|⟨h9,rfl⟩|⟨h9,rfl⟩ <;> first|omega|skip;rw[Jk]at U⊢;cases U
    exact B1 J h Je hF hO Ja
end
section
variable{C:IC}{w:AT}{b n:Nat}{vI vO:BY}{z:ES}{t:Tr}{fr:List Int}{s:St}{a:List St}
def B9(Z:C.Ok){B:Nat}{U x1:BY}(h:IS C w (some b) vI vO z)(Y:aK w B [U,x1])(hB:C.w0.heap.size<=B)(J:¬dt C (some b) vO B)(e v:BY):
  IS C ((w.setCell ⟨B,0,none⟩ e).setCell ⟨B,1,none⟩ v) (some b) vI vO z/\aK ((w.setCell ⟨B,0,none⟩ e).setCell ⟨B,1,none⟩ v) B [e,v]/\ak (λk=>k=B) w ((w.setCell ⟨B,0,none⟩ e).setCell ⟨B,1,none⟩ v):=by
 have I:ak (λk=>k=B) w ((w.setCell ⟨B,0,none⟩ e).setCell ⟨B,1,none⟩ v):=((ak.refl (λk=>k=B) w).setCell (p:=⟨B,0,none⟩) rfl _).setCell (p:=⟨B,1,none⟩) rfl _;refine⟨h.past Z I (λk hk=>?_),(Y.set 0 e).set 1 v,I⟩;have e:k=B:=hk;subst e;exact⟨hB,λe=>J (.inr e),λe=>J (.inl (.inr (.inr e)))⟩
def fE.less{D:DataW Unit}{l l':List (GA×Int)}(h:fE D l)(hs:∀x∈l',x∈l):fE D l':=⟨h.map,λx v hx=>h.val x v (hs _ hx)⟩
theorem IS.cut(h:IS C w (some b) vI vO z)(m:Nat):IS C w (some b) vI vO {z with l:=z.l.take m}:=by
 refine⟨h.tc,h.box,h.gl,h.gw,h.g1,?_,h.inp,h.out,⟨h.ok.g,λx hx=>h.ok.l x (List.mem_of_mem_take hx),h.ok.i⟩,h.uu,h.nn⟩;rcases h.var with⟨e,-⟩|⟨q,n,D,e,I,h2,h3⟩
 ·cases e
 ·exact .inr ⟨q,n,D,e,I,h2.less (λx hx=>List.mem_of_mem_take hx),h3⟩
def AC{j:Nat}{l:List St}{b I:List St}{r:ER}{J:ES}(hO:D7 l s a b)(h:Ev t fr j (.sq (l++I)) z r J)(hj:j<=n)(Y:OkW z):∃r1 z1,ru t fr n s a b z r1 z1/\((r1 ≠ .on/\r=r1/\J=z1)∨(r1=.on/\z1.l.map Prod.fst=be s (z.l.map Prod.fst)/\∃j',j'<=n/\Ev t fr j' (.sq I) z1 r J)):=by
 have e:l++I=s::(a++b++I):=by rw[hO.is];simp
 obtain⟨e1,e2,e3⟩:=hO.take I;rw[e]at h;rcases zo h with⟨U,rfl,rfl⟩|⟨U,Z,r1,z1,rfl,h2,h3⟩
 ·exact⟨.out 2,J,.inl ⟨U,rfl,rfl⟩,.inl ⟨(λe=>by cases e),rfl,rfl⟩⟩
 ·rw[e1,e2]at h2;refine⟨r1,z1,.inr ⟨U,h2.ups o_⟩,?_⟩;rcases h3 with⟨h4,rfl,rfl⟩|⟨rfl,h4⟩
  ·exact .inl ⟨h4,rfl,rfl⟩
  ·rw[e3]at h4;have hn:=mi Z h2 (⟨Y.g,Y.l,Y.i⟩:OkW z.sp);exact .inr ⟨rfl,hn,Z,o_,h4⟩
def AD{b:List St}{vc:Int}{U:ES}(h:Lk t fr n s a b z 1 vc U)(J:OkW z):U.l.map Prod.fst=z.l.map Prod.fst:=by
 have Ja:OkW z.sp:=⟨J.g,J.l,J.i⟩;rcases h with⟨-,h,-⟩|⟨-,⟨h5,r,I,h,-⟩|⟨h5,⟨c,I,h,-⟩|⟨-,h,-⟩|⟨v,Z,r,g1,g2,g3,⟨rfl,-,-⟩|⟨-,h,-⟩⟩⟩⟩
 ·cases h
 ·exact absurd h.symm (lk I)
 ·rcases I.outc c rfl with e|e <;> (subst e;cases h)
 ·cases h
 ·have Y:=g1.inv Ja trivial;have i3:=g3.inv Y.1 trivial;have e1:Z.l=z.l:=Y.2.2.2.2.2;have e3:U.l.map Prod.fst=Z.l.map Prod.fst:=i3.2.2.2.2.2;rw[e3,e1]
 ·exact absurd h.symm (lk g3)
def xk(L:List (BY×List St))(k:Nat)(h:k<L.length):dd (L.drop k)=(L.getD k (.nilFunc,[])).2++dd (L.drop (k+1)):=by
 rw[drop_eq_getElem_cons h,tg];simp[List.getD,h]
end
section
variable{C:IC}{vO vI1 vO1:BY}{W1 wr:AT}{M n b:Nat}{s:St}{a:List St}{r:ER}{zc:ES}
structure Fg (C:IC) (n:Nat) (L:List (BY×List St)) (r:ER) (z2:ES) (W0:AT) (b:Nat) (vO:BY) (M:Nat) (k:Nat) (wr:AT) (vI1 vO1:BY) (zc:ES):Prop where
 ev:∃j,j<=n/\Ev C.t C.fr j (.sq (dd (L.drop k))) zc r z2
 st:IS C wr (some b) vI1 vO1 zc
 ok:kX C.t (zc.l.map Prod.fst) (dd (L.drop k))
 sc:jd C.t (zc.l.map Prod.fst)
 tc:ak (dt C (some b) vO) W0 wr
 oo:∀k,vO1.ownBlock=some k->vO.ownBlock=some k∨W0.heap.size<=k
 mm:aK wr M [V 0,V 0]
structure Ea (C:IC) (n:Nat) (s:St) (a c:List St) (r1:ER) (z1:ES) (nm:List GA) (W1:AT) (b:Nat) (vO:BY) (M B:Nat) (wr:AT) (vI1 vO1:BY) (zc:ES) (en vv:Int):Prop where
 pe:(en=1/\ru C.t C.fr n s a c zc r1 z1/\zc.l.map Prod.fst=nm)∨(en≠1/\en=bW r1/\vv=cI r1/\zc=z1)
 st:IS C wr (some b) vI1 vO1 zc
 tc:ak (λk=>dt C (some b) vO k∨k=B) W1 wr
 oo:∀k,vO1.ownBlock=some k->vO.ownBlock=some k∨W1.heap.size<=k
 mm:aK wr M [V 0,V 0]
 bx:aK wr B [V en,V vv]
def lq{q:Nat}{vO2:BY}(hM:¬dt C (some q) vO M)(hM0:M<W1.heap.size)(ho:∀k,vO2.ownBlock=some k->vO.ownBlock=some k∨W1.heap.size<=k):¬dt C (some q) vO2 M:=λhk=>by
 rcases hk with hk|hk
 ·rcases hk with h1|h1|h1
  ·exact hM (.inl (.inl h1))
  ·exact hM (.inl (.inr (.inl h1)))
  ·rcases ho M h1 with h2|h2
   ·exact hM (.inl (.inr (.inr h2)))
   ·omega
 ·exact hM (.inr hk)
theorem AE{t:Tr}{fr:List Int}{b:List St}{z:ES}{z':ES}(h:ru t fr n s a b z r z')(hr:r ≠ .on):bW r≠0:=λe=>by
 rcases h with⟨-,rfl,-⟩|⟨-,h⟩
 ·cases e
 ·cases r using ER.cs with
  | val v=>exact h.nov rfl v rfl
  | on=>exact hr rfl
  | ret v=>exact absurd e (by decide:(2:Int)≠0)
  | out c=>rcases h.outc c rfl with e1|e1 <;> (subst e1;exact absurd e d_)
def AF(hC:C.Ok){L:List (BY×List St)}{Y:ES}{W0:AT}{k:Nat}(hS:Fg C n L r Y W0 b vO M k wr vI1 vO1 zc)(hk:k<L.length)(Ji:Bv C.w0 C.S (L.getD k (.nilFunc,[])).1 (L.getD k (.nilFunc,[])).2):
  ∃s a c us t x r1 z1,(L.getD k (.nilFunc,[])).1=.iface t x/\EW C (.iface t x) s a c us/\(∀i,i<eS s->Tv C.w0 C.S (us i) (xh s i))/\stmtB s=true/\yi C.t (zc.l.map Prod.fst) s/\(s.kind=4∨s.kind=5->kX C.t (zc.l.map Prod.fst) a/\kX C.t (zc.l.map Prod.fst) c)/\ru C.t C.fr n s a c zc r1 z1/\((r1 ≠ .on/\bW r1≠0/\r=r1/\Y=z1)∨(r1=.on/\∀wX vIx vOx,IS C wX (some b) vIx vOx z1->ak (dt C (some b) vO) W0 wX->(∀k,vOx.ownBlock=some k->vO.ownBlock=some k∨W0.heap.size<=k)->aK wX M [V 0,V 0]->Fg C n L r Y W0 b vO M (k+1) wX vIx vOx z1)):=by
 obtain⟨s,a,c,us,J,Jd,Z⟩:=Ax Ji;obtain⟨t,x,f,Jc,-,-⟩:=rx hC Jd (λi hi=>(Z i hi).isI);obtain⟨⟨j,hj,hE⟩,h2,h3,h4,h5,h6,h7⟩:=hS;rw[xk L k hk]at hE h3;obtain⟨r1,z1,hP,Ja⟩:=AC J hE hj h2.ok;have e:(L.getD k (.nilFunc,[])).2++dd (L.drop (k+1))=s::(a++c++dd (L.drop (k+1))):=by rw[J.is];simp
 obtain⟨e1,e2,e3⟩:=J.take (dd (L.drop (k+1)));rw[e]at h3;obtain⟨Jf,Jb,Je,-⟩:=h3.cons;rw[e1,e2]at Jb;rw[e3]at Je;have Jh:=(h3.ok s (mem_cons_self ..)).1;refine⟨s,a,c,us,t,x,r1,z1,Jc,by rw[<-Jc];exact Jd,Z,Jh,Jf,Jb,hP,?_⟩;rcases Ja with⟨I,h,U⟩|⟨I,h,j',U,g4⟩
 ·exact .inl ⟨I,AE hP I,h,U⟩
 ·exact .inr ⟨I,λwX vIx vOx q1 q2 q3 q4=>⟨⟨j',U,g4⟩,q1,by rw[h];exact Je,by rw[h];exact h4.add Jf,q2,q3,q4⟩⟩
def Ca(hC:C.Ok)(hI:FZ C n){c:List St}{us:Nat->BY}{t:GC}{x:BY}{r1:ER}{z1:ES}{nm:List GA}{B:Nat}{vv:Int}(h:Ea C n s a c r1 z1 nm W1 b vO M B wr vI1 vO1 zc 1 vv)
  (Jn:EW C (.iface t x) s a c us) (Jt:∀i,i<eS s->Tv C.w0 C.S (us i) (xh s i)) (Jo:stmtB s=true) (Jq:yi C.t nm s) (Js:jd C.t nm) (Jm:s.kind=4∨s.kind=5->kX C.t nm a/\kX C.t nm c) (Jr:¬dt C (some b) vO M) (Jf:M<W1.heap.size) (Jg:¬dt C (some b) vO B) (Jc:B<W1.heap.size) (Jp:C.w0.heap.size<=B) (Jl:M≠B):
  ∃ec vc z3,(ec=1->z3.u+1<=zc.u)/\Calls prog 110 #[pV C.P,.iface t x] wr λe w5=>e=rW (.agg #[V ec,V vc])/\aK w5 B [V 1,V vv]/\∃vI5 vO5,Ea C n s a c r1 z1 nm W1 b vO M B ((w5.setCell ⟨B,0,none⟩ (V ec)).setCell ⟨B,1,none⟩ (V vc)) vI5 vO5 z3 ec vc:=by
 obtain⟨J,h2,h3,h4,h5,h6⟩:=h;obtain⟨-,hP,U⟩:(1:Int)=1/\ru C.t C.fr n s a c zc r1 z1/\zc.l.map Prod.fst=nm:=by
  rcases J with J|⟨J,-⟩
  ·exact J
  ·exact absurd rfl J
 obtain⟨ec,vc,z3,hL,Ja⟩:=hP.look;refine⟨ec,vc,z3,λhe=>?_,?_⟩
 ·rcases Ja with⟨I,-⟩|⟨-,g2,-⟩
  ·exact absurd he I
  ·omega
 ·have hc:=hI s a c us (.iface t x) zc ec vc z3 hL (by rw[U];exact Jq) (by rw[U];exact Js) Jo (by rw[U];exact Jm) Jn Jt wr b vI1 vO1 h2;have Jh:=lq Jr Jf h4;have Ji:=lq Jg Jc h4;have Je:M<wr.heap.size:=l_ Jf h3.size;have Jj:B<wr.heap.size:=l_ Jc h3.size;have Ju:=h3.size;refine hc.mono λe w5 hQ=>?_;obtain⟨vI5,vO5,rfl,q1,Y,q3⟩:=hQ;have Jd:=h6.tcs Jj Y Ji;have Jk:=h5.tcs Je Y Jh;have ho:∀k,vO5.ownBlock=some k->vO.ownBlock=some k∨W1.heap.size<=k:=λk hk=>by
   rcases q3 k hk with g|g
   ·exact h4 k g
   ·exact .inr o_
  obtain⟨p1,p2,p3⟩:=B9 hC q1 Jd Jp (lq Jg Jc ho) (V ec) (V vc);refine⟨rfl,Jd,vI5,vO5,?_,p1,?_,ho,?_,p2⟩
  ·rcases Ja with⟨I,g2,Z,g4⟩|⟨I,g2,Z⟩
   ·exact .inr ⟨I,g2,Z,g4⟩
   ·refine .inl ⟨I,Z,?_⟩;rw[I]at hL;rw[AD hL h2.ok,U]
  ·refine((h3.next Y (λk hk=>?_))).next p3 (λk hk=>.inl (.inr hk));rcases hk with hk|hk
   ·rcases hk with g|g|g
    ·exact .inl (.inl (.inl (.inl g)))
    ·exact .inl (.inl (.inl (.inr (.inl g))))
    ·rcases h4 k g with g|g
     ·exact .inl (.inl (.inl (.inr (.inr g))))
     ·exact .inr g
   ·exact .inl (.inl (.inr hk))
  ·exact Jk.tcs (l_ Je Y.size) p3 (λe=>Jl e)
def EX{u U:Nat}{I:Int}{J:Nat}(h:u+1<=U)(Y:I=1->J+1<=u):∃g,g<U/\(I=1->J+1<=g):=by
 by_cases e:I=1
 ·exact⟨J+1,Ft (Y e),λ_=>n_⟩
 ·exact⟨0,o_,λh=>absurd h e⟩
def xl(J:C.Ok)(Z:W1=wr.alloc (.cells #[V 1,V 0] 75))(h:IS C wr (some b) vI1 vO1 zc)(Y:aK wr M [V 0,V 0]):Bl wr W1/\aK W1 wr.heap.size [V 1,V 0]/\¬dt C (some b) vO1 wr.heap.size/\wr.heap.size<W1.heap.size/\C.w0.heap.size<=wr.heap.size/\M≠wr.heap.size/\M<W1.heap.size/\IS C W1 (some b) vI1 vO1 zc/\aK W1 M [V 0,V 0]:=by
 have I:Bl wr W1:=by rw[Z];exact r_.alloc n_ _
 have U:aK W1 wr.heap.size [V 1,V 0]:=by rw[Z];exact aH wr _ _ i_
 have hM:=b_ (Y 0 _ rfl).1;have Jc:M<wr.heap.size:=hM;have hB:=b_ (U 0 _ rfl).1;have Jb:wr.heap.size<W1.heap.size:=hB;exact⟨I,U,λhk=>Ft (dt.lt J h _ hk),Jb,(h.hi J).2.2,o_,o_,h.below J I,Y.below I⟩
theorem AG(hC:C.Ok)(Yb:FZ C n):Ff C (n+1):=by
 intro L z r z' hE Xu Xg w b vI vO vB h hB;obtain⟨z2,Xn,Xq⟩:∃z2,Ev C.t C.fr n (.sq (dd L)) z r z2/\z'={z2 with l:=z2.l.take z.l.length}:=by
  cases hE using Ev_i with
  | blk _ _ _ _ z2 h1=>exact⟨z2,h1,rfl⟩
 obtain⟨W0,M,Xs,hM,Jq,Xf,Xm⟩:=gg w;have Ye:w.heap.size<=M:=Nat.le_of_eq hM.symm;have Yo:¬dt C (some b) vO M:=λhk=>Ft (dt.lt hC h M hk)
 obtain⟨Yp,Xo,-⟩:=hB.parts;obtain⟨a1,c1,rfl,Yx,Yz,X_⟩:=Yp;have Je:Hid (∀(wX:AT) (vIx vOx:BY),IS C wX (some b) vIx vOx z2->ak (dt C (some b) vO) W0 wX->(∀k,vOx.ownBlock=some k->vO.ownBlock=some k∨W0.heap.size<=k)->aK wX M [V 0,V 0]->DO ((wX.setCell ⟨M,0,none⟩ (V (bW r))).setCell ⟨M,1,none⟩ (V (cI r))) M 0 (V (bW r))/\DO ((wX.setCell ⟨M,0,none⟩ (V (bW r))).setCell ⟨M,1,none⟩ (V (cI r))) M 1 (V (cI r))/\mU C w b vO (bW r) (cI r) z' (rW (.agg #[V (bW r),V (cI r)])) ((wX.setCell ⟨M,0,none⟩ (V (bW r))).setCell ⟨M,1,none⟩ (V (cI r)))):=λwX vIx vOx hI ht ho hm=>by
  have:=dN hC Ye h Jq Xm (hI.cut z.l.length) ht ho r_ hm (bW r) (cI r)
  rw[Xq];exact this
 have Jc:Hid (Fg C n L r z2 W0 b vO M 0 W0 vI vO z):=⟨⟨n,n_,Xn⟩,h.below hC Jq,Xu,Xg,ak.refl _ _,λk hk=>.inl hk,Xf⟩;have Zc:L.length<=9223372036854775807:=o_;have Yh:=ah Yb;have HC:=ah hC;have Yg:=ah Xo;have Yr:=ah X_;have Yq:=ah Xs;have HM:=ah hM;have Za:C.w0.heap.size<=w.heap.size:=(h.hi hC).2.2;have Yi:=Jq.size;clear Yb hC Xo X_ Xs hM h hE Xn Xu Xg Xq Jq Xf;go_in;go_upto_region 1 with fail;rw[<-Yq.o,<-HM.o];go_wp2;go_loopw[10] (λi wr=>∃(k:Nat) (Jl Jd:BY) (zc:ES),i=V (k:Int)/\k<=L.length/\Fg C n L r z2 W0 b vO M k wr Jl Jd zc) (λi _=>L.length-(RowKit.intOf i).toNat)
 case atStart=>exact⟨0,vI,vO,z,rfl,y_,Jc⟩
 case round=>
  clear Jc;obtain⟨k,Jl,Jd,zc,rfl,Zb,J⟩:=hrel;by_cases hlt:k<L.length
  ·have Yy:(k:Int)<(L.length:Int):=o_
   obtain⟨Q,rfl,Jy,Xy⟩:=Yr o_;obtain⟨s,a,c,us,t,x,r1,z1,Xc,Xh,Ya,Xj,Xz,Xv,hP,Xk⟩:=AF HC J hlt (Yg k hlt);have Yj:DO wr Q k (.iface t x):=by
    rw[<-Xc];exact(c_ (a:=⟨Q,k,none⟩) (J.st.tc.block Q (HC.o.sS Q Jy).1 (λe=>e.elim (HC.o.sS Q Jy).2.1 (HC.o.sS Q Jy).2.2))).trans (Xy k hlt)
   obtain⟨W1,Jv⟩:=q_ (wr.alloc (.cells #[V 1,V 0] 75));obtain⟨Xa,Jz,J_,Js,Ju,Jx,Xd,Xe,Xx⟩:=xl HC Jv J.st J.mm;obtain⟨B,hB⟩:=q_ wr.heap.size;rw[<-hB]at Jz J_ Js Ju Jx;have Jk:¬dt C (some b) Jd M:=lq Yo Xm J.oo;have Xr:Hid (Ea C n s a c r1 z1 (zc.l.map Prod.fst) W1 b Jd M B W1 Jl Jd zc 1 0):=⟨.inl ⟨rfl,hP,rfl⟩,Xe,ak.refl _ _,λk hk=>.inl hk,Xx,Jz⟩;have Jh:=ah λ(wi:AT) (Z:BY) (Y:BY) (zi:ES) (vi:Int) (I:Ea C n s a c r1 z1 (zc.l.map Prod.fst) W1 b Jd M B wi Z Y zi 1 vi)=>Ca HC Yh I Xh Ya Xj Xz J.sc Xv Jk Xd J_ Js Ju Jx;have Yu:Hid (∀(wi:AT) (Z Y:BY) (zi:ES) (U vi:Int),Ea C n s a c r1 z1 (zc.l.map Prod.fst) W1 b Jd M B wi Z Y zi U vi->ak (dt C (some b) vO) W0 wi/\∀k,Y.ownBlock=some k->vO.ownBlock=some k∨W0.heap.size<=k):=λwi Z Y zi U vi I=>by
    have hs:=J.tc.size;have Y_:=Xa.size;have h1:ak (dt C (some b) vO) W0 W1:=J.tc.of_below Xa;refine⟨h1.next I.tc (λk hk=>?_),λk hk=>?_⟩
    ·rcases hk with hk|hk
     ·rcases hk with hk|hk
      ·rcases hk with g|g|g
       ·exact .inl (.inl (.inl g))
       ·exact .inl (.inl (.inr (.inl g)))
       ·rcases J.oo k g with g|g
        ·exact .inl (.inl (.inr (.inr g)))
        ·exact .inr g
      ·exact .inl (.inr hk)
     ·exact .inr o_
    ·rcases I.oo k hk with g|g
     ·exact J.oo k g
     ·exact .inr o_
   have Yn:=ah Jv;have HB:=ah hB;have Yf:=ah Xk;have Yd:¬B=M:=λe=>Jx e.symm;clear J Xy Xc Xh Ya Xj Xz Xv hP Xk Jv Xa Jz J_ Js Ju Xd Xe Xx hB Jk;go_upto_region 4 with fail;clear Yj;go_wp2_with fail;rw[<-Yn.o,<-HB.o];go_loopg[] (zc.u+1) (λgk wi=>∃(Z Y:BY) (zi:ES) (U vi:Int),(U=1->zi.u+1<=gk)/\Ea C n s a c r1 z1 (zc.l.map Prod.fst) W1 b Jd M B wi Z Y zi U vi)
   case atStart=>exact⟨Jl,Jd,zc,1,0,λ_=>n_,Xr⟩
   case round=>
    clear Xr;obtain⟨Z,Y,zi,U,vi,Xw,I⟩:=hrel;have Yk:=(I.bx 0 _ rfl).1;have Yl:=(I.bx 1 _ rfl).1;by_cases he:U=1
    ·subst he;obtain⟨ec,vc,z3,Xp,Jf⟩:=Jh wr Z Y zi vi I;obtain⟨g2,Ys,Xi⟩:=EX (Xw rfl) Xp;have Ji:=ah Jf;have HG:=ah Xi;clear Jf I Xi Xp Xw;go_wp2_with fail;refine Ji.o.mono ?_;rintro e w5 ⟨rfl,Jw,Yt,Yv,Xl⟩;have Ym:=ah Xl;obtain⟨y0,f0⟩:=Jw 0 _ rfl;obtain⟨y1,f1⟩:=Jw 1 _ rfl;clear Jw Xl Yk Yl;go_wp2;go_roundg g2
     case measure=>exact Ys
     case rel=>exact⟨Yt,Yv,z3,ec,vc,HG,Ym⟩
    ·have Yw:(U == 1)=false:=Fc he
     obtain⟨Jg,Jp,Jr⟩:U=bW r1/\vi=cI r1/\zi=z1:=by
      rcases I.pe with⟨e,-⟩|⟨-,e⟩
      ·exact absurd e he
      ·exact e
     obtain⟨hT,Jo⟩:=Yu wr Z Y zi U vi I;rcases Yf.o with⟨Jn,Jm,Jt,Xt⟩|⟨Jn,Jm⟩
     ·have Yc:(U != 0)=true:=by rw[Jg];simpa using Jm
      have HF:=ah (Je wr Z Y (by rw[Xt,<-Jr];exact I.st) hT Jo I.mm);rw[Jt,<-Jg,<-Jp]at HF;obtain⟨y0,f0⟩:=I.mm 0 _ rfl;obtain⟨y1,f1⟩:=I.mm 1 _ rfl;have HR:Hid (bW r=U/\cI r=vi):=by rw[Jt];exact⟨Jg.symm,Jp.symm⟩
      clear I Jg Jp Jr hT Jo Jn Jm Jt Xt he Je;go_wp2_with fail;obtain⟨t0,t1,hQ⟩:=HF;refine bodyPost_ret (v:=.agg #[V U,V vi]) (by simp[results,results70,go_sem,t0,t1]) rfl ?_;rw[HR.o.1,HR.o.2];exact hQ
     ·have Xb:U=0:=by rw[Jg,Jn];rfl
      have Jj:=ah (Jm wr Z Y (by rw[<-Jr];exact I.st) hT Jo I.mm);have Yc:(U != 0)=false:=by rw[Xb];rfl
      clear I Jg Jp Jr hT Jo Jn Jm he Xb;go_wp2;go_roundw
      case rel=>exact⟨k+1,Z,Y,z1,by go_num,o_,Jj⟩
      case measure=>exact FW
  ·obtain rfl:k=L.length:=by omega
   obtain⟨j,-,hE⟩:=J.ev;rw[drop_length]at hE;obtain⟨rfl,rfl⟩:r=.on/\z2=zc:=by
    cases hE using Ev_i with
    | nil=>exact⟨rfl,rfl⟩
   have HF:=ah (Je wr Jl Jd J.st J.tc J.oo J.mm);obtain⟨y0,f0⟩:=J.mm 0 _ rfl;obtain⟨y1,f1⟩:=J.mm 1 _ rfl;simp only[show bW ER.on=0 from rfl,show cI ER.on=0 from rfl]at HF;clear J hE Je;go_wp2_with fail;obtain⟨t0,t1,hQ⟩:=HF;exact bodyPost_ret (v:=.agg #[V 0,V 0]) (by simp[results,results70,go_sem,t0,t1]) rfl hQ
end
section
variable{C:IC}{w:AT}{vV:Option Nat}{vI vO:BY}{s s':ES}
def IS.now(J:C.Ok)(h:IS C w vV vI vO s)(x:Int)(U:s'={s with n:=x})(I:0<=x/\x+1000000000*(s.u:Int)<=100001000000000):IS C (w.setCell ⟨C.P,10,none⟩ (V x)) vV vI vO s':=by
 subst U;exact h.boxed J 10 _ rfl rfl rfl rfl h.inp ⟨h.ok.g,h.ok.l,h.ok.i⟩ n_ ⟨I.1,I.2,h.nn.2.2.1,h.nn.2.2.2⟩
def IS.deep(J:C.Ok)(h:IS C w vV vI vO s)(x:Int)(U:s'={s with d:=x})(I:0<=x/\x<=100001000000000):IS C (w.setCell ⟨C.P,11,none⟩ (V x)) vV vI vO s':=by
 subst U;exact h.boxed J 11 _ rfl rfl rfl rfl h.inp ⟨h.ok.g,h.ok.l,h.ok.i⟩ n_ ⟨h.nn.1,h.nn.2.1,I.1,I.2⟩
theorem IS.swap(Z:C.Ok){I:Option Nat}{l2:List (ByteArray×Int)}(h:IS C w vV vI vO s)(U:(I=none/\l2=[])∨∃b n D,I=some b/\w.ownsMap prog 9 (plainElem (H:=Unit) prog 2) b n D/\fE D l2/\n+s.u<=100010/\C.w0.heap.size<=b/\vO.ownBlock≠some b)(hl:∀x∈l2,et x.2):IS C (w.setCell ⟨C.P,5,none⟩ (.map I)) I vI vO {s with l:=l2}:=by
 obtain⟨p1,Y,p3⟩:=h.hi Z;obtain⟨q1,q2,q3,q4,q5⟩:=Z.pg;have J:ak (λk=>k=C.P) w (w.setCell ⟨C.P,5,none⟩ (.map I)):=(ak.refl (λk=>k=C.P) w).setCell (p:=⟨C.P,5,none⟩) rfl _;refine⟨h.tc.trans (J.mono λk hk=>.inl hk),h.box.set 5 _,h.gl,λk hk=>(h.gw k hk).tcs (Y _ (g_ hk)).1 J (Y _ (g_ hk)).2,h.g1,?_,h.inp,aO h.out J (λk hk hs=>by have e:k=C.P:=hs;have:=(World.ownsRow.lt h.out k hk).1;omega),⟨h.ok.g,hl,h.ok.i⟩,h.uu,h.nn⟩;rcases U with U|⟨b,n,D,rfl,h1,h2,h3,h4,h5⟩
 ·exact .inl U
 ·exact .inr ⟨b,n,D,rfl,bK h1 J (λe=>by have e':b=C.P:=e;omega),h2,h3,h4,h5⟩
def rB{f:Fu}{vs:List Int}(hl:vs.length=f.params.length)(Z:f.params.Nodup){k:Nat}(Y:k<f.params.length)(p:GA)(u:Int)(h:(p,u)∈(cP f vs).take (k+1)):(p=f.params[k]/\u=vs[k]'(by omega))∨(p≠f.params[k]/\(p,u)∈(cP f vs).take k):=by
 have hz:(cP f vs).length=f.params.length:=by unfold cP;rw[length_zip];omega
 obtain⟨i,U,I⟩:=getElem_of_mem h;rw[length_take]at U;rw[getElem_take]at I;have J:(f.params[i]'(by omega),vs[i]'(by omega))=(p,u):=by rw[<-I];unfold cP;rw[getElem_zip]
 cases J
 by_cases e:i=k
 ·subst e;exact .inl ⟨rfl,rfl⟩
 ·refine .inr ⟨λh1=>e (iz Z o_ Y h1),?_⟩;rw[mem_take_iff_getElem];exact⟨i,o_,I⟩
theorem AH(r:ER)(h:bW r=2):bW r.back=0∨∃c,r=.out c:=by
 cases r using ER.cs with
 | val v=>cases h
 | on=>cases h
 | ret v=>exact .inl rfl
 | out c=>exact .inr ⟨c,rfl⟩
def rC(r:ER):cI r.back=cI r:=by cases r using ER.cs <;> rfl
theorem Cb(r:ER)(h:bW r≠2):bW r.back=bW r:=by
 cases r using ER.cs with
 | val v=>rfl
 | on=>rfl
 | ret v=>exact absurd rfl h
 | out c=>rfl
end
theorem DW{C:IC}(Z:C.Ok){w W0 W6 I W8:World}{vV:Option Nat}{vI U Jg Y:Value}{s J:ES}{q M:Nat}{F1 en vv:Int}(h:IS C w vV vI U s)(Jp:Below w.heap.size w W0)(hq:q=W0.heap.size)(hM:M=w.heap.size)(J_:M<W0.heap.size)(Ji:ak (λk=>k=C.P∨k=q) W0 W6)(Jw:aK W6 M [V 0,V 0])(Jo:IS C I (some q) Jg Y J)(Jf:ak (dt C (some q) U) W6 I)(Jx:∀k,Y.ownBlock=some k->U.ownBlock=some k∨W6.heap.size<=k)(hn:J.n=s.n+F1)(hu:J.u<=s.u)(Jq:W8=I.alloc (.cells #[V en,V vv] 75)):
  I.heap.size≠M/\C.P≠I.heap.size/\IS C W8 (some q) Jg Y J/\∀W9 W11,Below W8.heap.size W8 W9->W11=(W9.setCell ⟨C.P,10,none⟩ (V s.n)).setCell ⟨C.P,5,none⟩ (.map vV)->(∀k,Y.ownBlock=some k->U.ownBlock=some k∨W0.heap.size<=k)/\aK W11 I.heap.size [V en,V vv]/\(IS C W11 vV Jg Y {J with l:=s.l,n:=J.n-F1}/\ak (cL C U) W0 W11/\aK W11 M [V 0,V 0])/\(IS C (W11.setCell ⟨I.heap.size,0,none⟩ (V 0)) vV Jg Y {J with l:=s.l,n:=J.n-F1}/\ak (cL C U) W0 (W11.setCell ⟨I.heap.size,0,none⟩ (V 0))/\aK (W11.setCell ⟨I.heap.size,0,none⟩ (V 0)) M [V 0,V 0]):=by
 obtain⟨p1,p2,p3⟩:=h.hi Z;obtain⟨q1,q2,q3,q4,q5⟩:=Z.pg;have s0:=Jp.size;have s6:=Ji.size;have s7:=Jf.size;have Ju:=λk hk=>World.ownsRow.lt h.out k hk;have Jv:M<W6.heap.size:=o_
 have Jt:¬dt C (some q) U M:=λhk=>by
  rcases hk with hk|hk
  ·rcases hk with g|g|g
   ·omega
   ·have:=(p2 M g).1;omega
   ·have:=(Ju M g).2;omega
  ·cases hk;omega
 have Js:=Jw.tcs Jv Jf Jt;have Jc:Bl I W8:=by rw[Jq];exact r_.alloc n_ _
 have Jn:aK W8 I.heap.size [V en,V vv]:=by rw[Jq];exact aH I _ _ (by show 2<=1000;omega)
 have Jk:=Jo.below Z Jc;have ho:∀k,Y.ownBlock=some k->U.ownBlock=some k∨W0.heap.size<=k:=λk hk=>(Jx k hk).imp_right (λg=>by omega);refine⟨o_,o_,Jk,λW9 W11 hb9 hW11=>?_⟩;have s8:=Jc.size;have s9:=hb9.size;have Jl:=Jk.below Z hb9;have Jz:=Jl.nn;have Jm:=h.nn;have Jh:=Jl.now Z (s':= {J with n:=s.n}) s.n rfl ⟨Jm.1,by have:=Jm.2.1;omega⟩;have Jj:ak (λk=>k=C.P) W9 (W9.setCell ⟨C.P,10,none⟩ (V s.n)):=(ak.refl (λk=>k=C.P) W9).setCell (p:=⟨C.P,10,none⟩) rfl _;have hv:(vV=none/\s.l=[])∨∃b n D,vV=some b/\(W9.setCell ⟨C.P,10,none⟩ (V s.n)).ownsMap prog 9 (plainElem (H:=Unit) prog 2) b n D/\fE D s.l/\n+J.u<=100010/\C.w0.heap.size<=b/\Y.ownBlock≠some b:=by
  rcases h.var with hv|⟨b,n,D,e,h1,h2,h3,h4,h5⟩
  ·exact .inl hv
  ·have Jy:=h1.lt;have m0:=bK h1 (Jp.tcs (S:=λ_=>False)) (λe=>e);have m6:=bK m0 Ji (λe=>e.elim (λe=>by omega) (λe=>by omega));have m7:=bK m6 Jf (λhk=>by
    rcases hk with hk|hk
    ·rcases hk with g|g|g
     ·omega
     ·have:=(q5 b g).2;omega
     ·exact h5 g
    ·cases hk;omega)
   have m8:=bK m7 (Jc.tcs (S:=λ_=>False)) (λe=>e);have m9:=bK m8 (hb9.tcs (S:=λ_=>False)) (λe=>e);refine .inr ⟨b,n,D,e,bK m9 Jj (λe=>by have e':b=C.P:=e;omega),h2,o_,h4,λe=>?_⟩;rcases ho b e with g|g
   ·exact h5 g
   ·omega
 have Jb:=Jh.swap Z (l2:=s.l) hv h.ok.l;rw[<-hW11]at Jb;have hz:({J with l:=s.l,n:=J.n-F1}:ES)={J with n:=s.n,l:=s.l}:=by rw[hn];simp
 rw[hz];have Je:ak (λk=>k=C.P) W9 W11:=by rw[hW11];exact Jj.setCell (p:=⟨C.P,5,none⟩) rfl _
 have Jr:aK W11 I.heap.size [V en,V vv]:=(Jn.below hb9).tcs (by have:=b_ (Jn 0 _ rfl).1;have e:I.heap.size<W8.heap.size:=this;omega) Je (λe=>by have e':I.heap.size=C.P:=e;omega);have Jd:aK W11 M [V 0,V 0]:=((Js.below Jc).below hb9).tcs o_ Je (λe=>by have e':M=C.P:=e;omega);have tE:ak (cL C U) W0 W11:=by
  refine((((ak.refl (cL C U) W0).next Ji (λk hk=>?_)).next Jf (λk hk=>?_)).of_below Jc).of_below hb9 |>.next Je (λk hk=>.inl (.inl hk))
  ·rcases hk with hk|hk
   ·exact .inl (.inl hk)
   ·exact .inr o_
  ·rcases hk with hk|hk
   ·exact .inl hk
   ·cases hk;exact .inr o_
 have tB:ak (λk=>k=I.heap.size) W11 (W11.setCell ⟨I.heap.size,0,none⟩ (V 0)):=(ak.refl (λk=>k=I.heap.size) W11).setCell (p:=⟨I.heap.size,0,none⟩) rfl _;refine⟨ho,Jr,⟨Jb,tE,Jd⟩,Jb.past Z tB (λk hk=>?_),tE.next tB (λk hk=>.inr (by have e:k=I.heap.size:=hk;omega)),Jd.tcs (by have:=Je.size;omega) tB (λe=>by have e':M=I.heap.size:=e;omega)⟩;have e:k=I.heap.size:=hk;refine⟨o_,λe2=>?_,λe2=>?_⟩
 ·rcases h.var with⟨e3,-⟩|⟨b,n,D,e3,h1,-⟩
  ·rw[e3]at e2;cases e2
  ·rw[e3]at e2;cases e2
   have:=h1.lt
   omega
 ·have:=(World.ownsRow.lt Jo.out k e2).2
  omega
section
variable{C:IC}{W1 wr w':AT}{q M k:Nat}{vI vO:BY}{s:ES}{f:Fu}
structure Cz (C:IC) (W1:AT) (q:Nat) (vI vO:BY) (s:ES) (l:List (GA×Int)) (M k:Nat) (wr:AT):Prop where
 st:IS C wr (some q) vI vO {s with l:=l.take k}
 map:∃D,wr.ownsMap prog 9 (plainElem (H:=Unit) prog 2) q k D/\fE D (l.take k)
 tc:ak (λx=>x=q) W1 wr
 mm:aK wr M [V 0,V 0]
def Cz.below(U:C.Ok){l:List (GA×Int)}(h:Cz C W1 q vI vO s l M k wr)(I:Bl wr w'):Cz C W1 q vI vO s l M k w':=by
 obtain⟨D,J,h2⟩:=h.map;exact⟨h.st.below U I,⟨D,bK J (I.tcs (S:=λ_=>False)) (λe=>e),h2⟩,h.tc.of_below I,h.mm.below I⟩
def xm{t:Tr}(h:(aU t).1=0)(I:f∈t.funcs):∀x∈f.params,x.size<=maxLen:=λx hx=>by
 obtain⟨h1,-,h2⟩:=dH h;simp only[df,GE,GF,all_eq_true]at h1;have hfb:=h1.2.2.2 f I;simp only[cQ,GE,GF,stmtsB,all_eq_true]at hfb;have h3:=hfb.2.2.2.1 x hx;have:lu x:=by simpa[aY]using h3
 exact fL this.2.1 d_
def Cz.more(hC:C.Ok){vs:List Int}(h:Cz C W1 q vI vO s (cP f vs) M k wr)(Z:vs.length=f.params.length)(Ja:f.params.Nodup)(h6:f.params.length<=6)(I:k<f.params.length)(Jc:∀x∈vs,et x){D:DataW Unit}(hD:fE D ((cP f vs).take k))(hM:M≠q)(Y:w'.ownsMap prog 9 (plainElem (H:=Unit) prog 2) q (k+1) (D.put (kS f.params[k]) (.lit (.int .i64 (vs[k]'(by omega))))))(hg:wr.grownBy w' (some q)):Cz C W1 q vI vO s (cP f vs) M (k+1) w':=by
 have J:ak (λx=>x=q) wr w':=ak.of_grown hg (λk I=>by cases I;rfl);have U:fE (D.put (kS f.params[k]) (.lit (.int .i64 (vs[k]'(by omega))))) ((cP f vs).take (k+1)):=hD.put (rB Z Ja I);have Jb:=b_ (h.mm 0 _ rfl).1;refine⟨?_,⟨_,Y,U⟩,h.tc.trans J,h.mm.tcs Jb J hM⟩;have:=h.st.vars hC J Y U (by have:=h.st.uu.1;show k+1+s.u<=_;simp only at this;omega) (λy hy=>?_)
 ·exact this
 ·rcases rB Z Ja I y.1 y.2 hy with⟨-,e⟩|⟨-,hm⟩
  ·rw[e];exact Jc _ (g_ _)
  ·exact h.st.ok.l _ hm
theorem AI(U:C.Ok){n:Nat}(IB:Ff C n):FX C (n+1):=by
 intro f vs s r s' hE Zl Vq Yo w vV vI vO va h hA;obtain⟨hf,J,z2,rfl,Yp,Jy⟩:∃(hf:f<C.t.funcs.length) (J:ER) (z2:ES),r=J.back/\s'={z2 with l:=s.l,n:=z2.n-C.fr.getD f 0}/\Ev C.t C.fr n (.bl C.t.funcs[f].body) {s with l:=cP C.t.funcs[f] vs,n:=s.n+C.fr.getD f 0,d:=max s.d (s.n+C.fr.getD f 0)} J z2:=by
  cases hE using Ev_i with
  | run _ _ _ _ hf J z2 h1=>exact⟨hf,J,z2,rfl,rfl,h1⟩
 have Xx:=Zl hf;have Zd:=xm U.snd (g_ hf);obtain⟨Xw,Zb,Vh⟩:=pA U.snd (g_ hf);obtain⟨af,cf,Zm,Ol,Ui,Zr⟩:=U.fs;obtain⟨b,Ot,Zu,hc⟩:=Zr o_;obtain⟨vp,vb,⟨c0,c1,c2⟩,Ym,Zg⟩:=hc f hf;obtain⟨fa,fc,Xb,Uq,Oi,Xo⟩:=U.frs;have Jk:f<C.fr.length:=by rw[U.frl];exact hf
 obtain⟨bF,oF,Zf,Vl⟩:=Xo o_;have cF:=Vl f Jk;have Ub:C.fr.getD f 0=C.fr[f]:=by simp[List.getD,Jk]
 have Xk:=U.frb _ (g_ Jk);rw[<-Ub]at cF Xk;generalize C.fr.getD f 0=F1 at cF Xk Yp Jy;have Yc:=mj Xx;have Ow:=U.sm.2;have Uz:=U.frl;obtain⟨ba,bc,bL,Zh,Vk,Jh⟩:=U.bod f hf;rw[Jh]at Jy Xw;generalize C.t.funcs[f]=fn at Xx Zd Xw Zb Vh c0 c1 c2 Ym Zg Jy Yc;obtain⟨ap,cp,Un,Vz,Ul,Xd⟩:=id Ym;subst Un;obtain⟨aA,cA,Up,Ov,Oo,Zq⟩:=hA;subst Up;obtain⟨q1,q2,q3,q4,q5⟩:=U.pg;obtain⟨p1,p2,p3⟩:=h.hi U;have Vt:∀ {B i:Nat} {v:Value},C.wa.cell? ⟨B,i,none⟩=some v->B<C.wa.heap.size:=λe=>b_ e;have Yg:∀(X:World) (B i:Nat) (v:Value) (q:Option Nat) (vI vO:Value) (z:ES),IS C X q vI vO z->C.wa.cell? ⟨B,i,none⟩=some v->X.cell? ⟨B,i,none⟩=some v:=λX B i v q vI vO z hX e=>by
  have hB:=Vt e;have e0:C.w0.cell? ⟨B,i,none⟩=some v:=(U.bel.cell (p:=⟨B,i,none⟩) hB).trans e;refine(c_ (a:=⟨B,i,none⟩) (hX.tc.block B (by have:=U.bel.size;omega) (λe=>?_))).trans e0;rcases e with e|e
  ·omega
  ·have:=(q5 B e).1;omega
 obtain⟨W0,M,Vj,hM,Yk,Yb,J_⟩:=gg w;have Jm:=h.below U Yk;have Uj:C.P<W0.heap.size:=(Jm.hi U).1;obtain⟨q,hq⟩:=q_ W0.heap.size;obtain⟨W1,Yh⟩:=q_ ((W0.setCell ⟨C.P,5,none⟩ (.map (some W0.heap.size))).alloc (.map #[] 0));have Jz:Bl W0 (W0.alloc (.map #[] 0)):=au _ _;have Jb:(W0.alloc (.map #[] 0)).ownsMap prog 9 (plainElem (H:=Unit) prog 2) q 0 (.map []):=by rw[hq];exact World.ownsMap_made W0 prog 9 _
 have Za:fE (.map []) []:=⟨cR.nil.map,λx v h=>by cases h⟩;have Uf:C.w0.heap.size<=q:=by have:=(Jm.hi U).2.2;omega
 have Ux:vO.ownBlock≠some q:=λe=>by have:=(World.ownsRow.lt Jm.out q e).2;omega
 have Jd:W1=(W0.alloc (.map #[] 0)).setCell ⟨C.P,5,none⟩ (.map (some q)):=by rw[Yh,hq,World.setCell_alloc_past _ _ _ _ Uj]
 have Xq:IS C W1 (some q) vI vO {s with l:=(cP fn vs).take 0}:=by
  rw[Jd];exact(Jm.below U Jz).swap U (.inr ⟨q,0,_,rfl,Jb,Za,by have:=h.uu.1;omega,Uf,Ux⟩) (λx hx=>by cases hx)
 have Yz:ak (λk=>k=C.P) W0 W1:=by
  rw[Jd];exact(Jz.tcs (S:=λk=>k=C.P)).setCell (p:=⟨C.P,5,none⟩) rfl _
 have Vg:M≠C.P:=o_;have Zn:M≠q:=o_;have Vr:aK W1 M [V 0,V 0]:=Yb.tcs J_ Yz Vg;have Ji:W1.ownsMap prog 9 (plainElem (H:=Unit) prog 2) q 0 (.map []):=by
  rw[Jd];exact bK Jb ((ak.refl (λk=>k=C.P) _).setCell (p:=⟨C.P,5,none⟩) rfl _) (λe=>by have e':q=C.P:=e;omega)
 have Zp:Hid (Cz C W1 q vI vO s (cP fn vs) M 0 W1):=⟨Xq,⟨_,Ji,by simpa using Za⟩,ak.refl _ _,Vr⟩;have y1:=(Xq.box 1 _ rfl).1;have y5:=(Jm.box 5 _ rfl).1;have f5:=(Jm.box 5 _ rfl).2;rw[Zm,Zu]at y1;have d1:=Yg W1 _ _ _ _ _ _ _ Xq c1;have U_:=ah Yh;have Yu:=ah Yz;have Zs:=ah Zb;have Vu:=ah Vq;have Yw:=ah Xx;have Uc:=ah Zd;have Xs:=ah Jy;have Vw:=ah Xw;have Vf:=ah Yc;have Ue:=ah Yp;have Uw:=ah Yo;have Oc:=ah Xk;have Vc:=ah cF;have Ur:=ah Vk;have Us:=ah Zh;have Xf:Hid (C.vFr=.slice (some ⟨bF,oF,none⟩) C.fr.length fc):=by show _=_;rw[Xb,Zf]
 have Z:=ah U;have H0:=ah h;have Of:=ah Vj;have HM:=ah hM;have Xa:=ah Yk;have Ut:=ah Yb;have Zv:=ah IB;have Vn:=ah hq;have Uo:=ah Zq;have Oa:=ah Xd;have Yq:=ah Yg;have Oe:= @run_makeMap prog;clear U h Vj hM Yk Yb Jm IB hq Zq Xd Yg Vt hE Zl Ym Xo Vl Zr hc Zm Zu Yh Jz Jb Za Jd Xq Yz Vr Ji Zb Vq Xx Zd Jy Xw Yc Yp Yo Xk cF Vk Zh Xb Zf c0 c1 c2 Zg Jh;go_in;go_upto_region 1 with fail;rw[<-Of.out,<-HM.out];go_upto_region 3 with fail;rw[<-U_.out];clear Oe y5 f5;go_wp2;go_loopw[29] (λi wr=>∃k:Nat,i=V (k:Int)/\k<=fn.params.length/\Cz C W1 q vI vO s (cP fn vs) M k wr) (λi _=>fn.params.length-(RowKit.intOf i).toNat)
 case atStart=>exact⟨0,rfl,y_,Zp⟩
 case round=>
  clear Zp y1 d1;obtain⟨k,rfl,hk,hJ⟩:=hrel;by_cases hlt:k<fn.params.length
  ·have Op:(k:Int)<(fn.params.length:Int):=o_
   obtain⟨bp,op,rfl,Xd⟩:=Oa.out o_;have dp:=Yq.out wr _ _ _ _ _ _ _ hJ.st (Xd k hlt);obtain⟨D,Va,hD⟩:=hJ.map;have Ve:k<vs.length:=by have:=Yw.out;omega
   obtain⟨Y,rfl,Jz,Og,Zi⟩:=Uo.out o_;have Or:(k:Int)<(vs.length:Int):=o_;have Vi:Y<w.heap.size:=Jz;have Ze:wr.cell? ⟨Y,k,none⟩=some (V vs[k]):=by
    have h0:W0.cell? ⟨Y,k,none⟩=some (V vs[k]):=(Xa.out.cell (p:=⟨Y,k,none⟩) Vi).trans (Zi k Ve);have Z_:Y<W0.heap.size:=l_ Vi Xa.out.size;have h1:W1.cell? ⟨Y,k,none⟩=some (V vs[k]):=(c_ (a:=⟨Y,k,none⟩) (Yu.out.block Y Z_ (λe=>Og (.inl e)))).trans h0;refine(c_ (a:=⟨Y,k,none⟩) (hJ.tc.block Y (l_ Z_ Yu.out.size) (λe=>?_))).trans h1;have e':Y=q:=e;have:=Vn.out;omega
   obtain⟨W3,Js⟩:=q_ wr.drew;have Jp:Bl wr W3:=by rw[Js];exact r_.drew
   have Ju:=hJ.below Z.out Jp;have Xc:W3.ownsMap prog 9 (plainElem (H:=Unit) prog 2) q k D:=bK Va (Jp.tcs (S:=λ_=>False)) (λe=>e);have Uv:=ah Xc;have I:Hid (W3.cell? ⟨C.P,5,none⟩=some (.map (some q))/\W3.cell? ⟨Y,k,none⟩=some (V vs[k])):=⟨(Ju.st.box 5 _ rfl).1,(Jp.cell (p:=⟨Y,k,none⟩) (b_ Ze)).trans Ze⟩;have Jc:=ah λw' (g1:w'.ownsMap prog 9 (plainElem (H:=Unit) prog 2) q (k+1) (D.put (kS fn.params[k]) (.lit (.int .i64 vs[k])))) (g2:W3.grownBy w' (some q))=>Ju.more Z.out Yw.out Zs.out.1 Vh hlt Vu.out hD Zn g1 g2;have HZ:Hid (fn.params[k].size<=maxLen):=Uc.out _ (g_ hlt);have Zj:Hid (-2147483648<=vs[k]/\vs[k]<=2147483647):=Vu.out _ (g_ Ve);have Xu:=ah Js;clear hJ Xd Zi Ze Js Jp Ju Xc Va hD;generalize fn.params[k]=pk at dp Jc HZ;generalize vs[k]=vk at I Jc Zj;have Oj:Hid (keyOf prog 9 (sV pk)=some (kS pk)):=WideMaps.keyOf_string_mk underlying9 HZ;have Um:Hid (plainElem (H:=Unit) prog 2 (V vk)=some (.lit (.int .i64 vk),[])):=plainElem_int underlying2 (WalkArith.wf_i64 (by have:=Zj.out;omega));have Ug:k<maxLen:=by unfold maxLen;omega
   obtain⟨w4,Uy,Jg,Ja⟩:=Uv.out.update (t:=77) (Maps.string_keyed underlying9) underlying77 Ug Oj.out Um;have Om:=ah (Jc.out w4 Jg Ja);clear Jg Ja;go_upto_region 6 with fail;refine aM 9 (λX=>X.cell? ⟨C.P,5,none⟩=some (.map (some q))/\X.cell? ⟨Y,k,none⟩=some (V vk)) k_ ?_;rw[<-Xu.out];refine tk 0 [1,2,3,9] I.out ?_;refine tk 1 [2,3,9] I.out ?_;refine tk 2 [3,9] I.out ?_;refine tk 3 [9] I.out ?_;refine tk 4 [9] I.out ?_;refine tk 5 [7,8,9] I.out ?_;refine tk 6 [7,8,9] I.out ?_;refine tk 7 [8,9] I.out ?_;refine tk 8 [9] I.out ?_;clear I;refine aq (i:=9) k_ rfl (λK hK=>?_);go_simp;refine hK.out _ _ (λh=>absurd rfl h) ?_;clear hK K;refine aJ k_ ?_ _;go_wp2;go_roundw
   case rel=>exact⟨k+1,by go_num,o_,Om⟩
   case measure=>simp[RowKit.intOf];omega
  ·obtain rfl:k=fn.params.length:=by omega
   have Vd:(cP fn vs).take fn.params.length=cP fn vs:=List.take_of_length_le (by unfold cP;rw[List.length_zip];have:=Yw.out;omega);obtain⟨W3,Js⟩:=q_ wr.drew;have Jp:Bl wr W3:=by rw[Js];exact r_.drew
   have Ju:=hJ.below Z.out Jp;have Jj:=Ju.st;rw[Vd]at Jj;have Yo:=Uw.out;have Xk:=Oc.out;have Yn:=Jj.nn;have Ya:=Jj.now Z.out (s.n+F1) (s':= {s with l:=cP fn vs,n:=s.n+F1}) rfl ⟨by have:=Yn.1;have e:(0:Int)<=s.n:=this;omega,by show s.n+F1+1000000000*(s.u:Int)<=_;omega⟩;obtain⟨W4,Yj⟩:=q_ (W3.setCell ⟨C.P,10,none⟩ (V (s.n+F1)));rw[<-Yj]at Ya;have Je:=(Jj.box 10 _ rfl).1;have Yy:=(Jj.box 10 _ rfl).2;have x9:=(Jj.box 9 _ rfl).1;rw[Xf.out]at x9;have Zy:W3.cell? ⟨C.P,10,none⟩=some (V s.n)/\W3.cell? ⟨C.P,9,none⟩=some (.slice (some ⟨bF,oF,none⟩) C.fr.length fc)/\W3.cell? ⟨bF,oF+f,none⟩=some (V F1):=⟨Je,x9,Yq.out W3 _ _ _ _ _ _ _ Jj Vc⟩;have I:=ah Zy;have Xu:=ah Js;have Zt:=ah Yj;have Zo:=ah Ya;have Os:0<=s.n:=Yn.1;have Oq:IntKind.i64.wrap (s.n+F1)=s.n+F1:=by simp[IntKind.wrap,IntKind.bits,IntKind.signed];omega
   have Ox:(f:Int)<(C.fr.length:Int):=o_;have V_:=ah hJ.tc;have Yl:Hid (∀c,J=.out c->c=2∨c=3):=λc h=>Xs.out.outc c h;clear hJ Js Jp Ju Jj Ya Yn x9 Zy Vd Yj;go_upto_region 8 with fail;refine aM 14 (λX=>X.cell? ⟨C.P,10,none⟩=some (V s.n)/\X.cell? ⟨C.P,9,none⟩=some (.slice (some ⟨bF,oF,none⟩) C.fr.length fc)/\X.cell? ⟨bF,oF+f,none⟩=some (V F1)) k_ ?_;rw[<-Xu.out];refine tk 0 [1,2,3,11,14] I.out ?_;refine tk 1 [2,3,11,14] I.out ?_;refine tk 2 [3,11,14] I.out ?_;refine tk 3 [11,14] I.out ?_;refine tk 4 [5,6,7,9,10,11,14] I.out ?_;refine tk 5 [6,7,9,10,11,14] I.out ?_;refine tk 6 [7,9,10,11,14] I.out ?_;refine tk 7 [9,10,11,14] I.out ?_;refine tk 8 [9,10,11,14] I.out ?_;refine tk 9 [10,11,14] I.out ?_;refine tk 10 [11,14] I.out ?_;refine tk 11 [14] I.out ?_;refine tk 12 [13,14] I.out ?_;refine tk 13 [14] I.out ?_;clear I;refine aq (i:=14) k_ rfl (λK hK=>?_);go_simp;refine hK.out _ _ (λh=>absurd rfl h) ?_;clear hK K Je Yy;refine aJ k_ ?_ _;rw[<-Zt.out];obtain⟨W5,Yr⟩:=q_ W4.drew;have Xl:Bl W4 W5:=by rw[Yr];exact r_.drew
   have Xr:=Zo.out.below Z.out Xl;have Je:=(Xr.box 10 _ rfl).1;have Vp:=(Xr.box 11 _ rfl).1;have Ud:=(Xr.box 11 _ rfl).2;have Vs:W5.cell? ⟨C.P,11,none⟩=some (V s.d)/\W5.cell? ⟨C.P,10,none⟩=some (V (s.n+F1)):=⟨Vp,Je⟩;have I:=ah Vs;have Yx:=ah Yr;clear Vs Yr Xl Xr Je;go_upto_region 9 with fail;refine aM 12 (λX=>X.cell? ⟨C.P,11,none⟩=some (V s.d)/\X.cell? ⟨C.P,10,none⟩=some (V (s.n+F1))) k_ ?_;rw[<-Yx.out];refine tk 0 [10,11,12] I.out ?_;refine tk 1 [2,3,4,9,12] I.out ?_;refine tk 2 [3,4,9,12] I.out ?_;refine tk 3 [4,9,12] I.out ?_;refine tk 4 [9,12] I.out ?_;refine tk 5 [6,7,8,9,12] I.out ?_;refine tk 6 [7,8,9,12] I.out ?_;refine tk 7 [8,9,12] I.out ?_;refine tk 8 [9,12] I.out ?_;refine tk 9 [12] I.out ?_;refine tk 10 [11,12] I.out ?_;refine tk 11 [12] I.out ?_;clear I;refine aq (i:=12) k_ rfl (λK hK=>?_);go_simp;generalize hmx:(if s.d<s.n+F1 then s.n+F1 else s.d)=mx;have Xj:max s.d (s.n+F1)=mx:=by rw[<-hmx];split <;> omega
   have Vm:=ah Xj;refine hK.out _ _ (λh=>absurd rfl h) ?_;clear hK K hmx Xj Vp Ud;refine aJ k_ ?_ _;obtain⟨W6,Xp⟩:=q_ (W5.setCell ⟨C.P,11,none⟩ (V mx));rw[<-Xp];have Xl:Bl W4 W5:=by rw[Yx.out];exact r_.drew
   have Jv:=(Zo.out.below Z.out Xl).deep Z.out (s':= {s with l:=cP fn vs,n:=s.n+F1,d:=max s.d (s.n+F1)}) mx (by rw[Vm.out]) (by have:=H0.out.nn.2.2;have:=Vm.out;omega);rw[<-Xp]at Jv;have X_:ak (λk=>k=C.P∨k=q) W0 W6:=by
    have g1:ak (λk=>k=C.P∨k=q) W0 wr:=(Yu.out.mono λk hk=>.inl hk).trans (V_.out.mono λk hk=>.inr hk);have g2:ak (λk=>k=C.P∨k=q) W0 W3:=by rw[Xu.out];exact g1.drew
    have g3:ak (λk=>k=C.P∨k=q) W0 W4:=by rw[Zt.out];exact g2.setCell (p:=⟨C.P,10,none⟩) (.inl rfl) _
    have g4:ak (λk=>k=C.P∨k=q) W0 W5:=by rw[Yx.out];exact g3.drew
    rw[Xp];exact g4.setCell (p:=⟨C.P,11,none⟩) (.inl rfl) _
   have Vb:aK W6 M [V 0,V 0]:=Ut.out.tcs J_ X_ (λe=>e.elim Vg Zn);have x3:=(Jv.box 3 _ rfl).1;have xb:W6.cell? ⟨C.bB,f,none⟩=some (.slice ba bL.length bc):=(c_ (a:=⟨C.bB,f,none⟩) (Jv.tc.block C.bB (Z.out.ne C.bB (.inr (.inr rfl))).1 (λe=>e.elim (Z.out.ne C.bB (.inr (.inr rfl))).2.1 (Z.out.ne C.bB (.inr (.inr rfl))).2.2))).trans Us;have Xv:=(Xs.out.inv Jv.ok trivial).2.2;have Xe:=ah (Zv.out bL _ J z2 Xs.out (by show kX _ ((cP fn vs).map Prod.fst) _;rw[Vf.out];exact Vw) (by show jd _ ((cP fn vs).map Prod.fst);rw[Vf.out];exact Zs) W6 q vI vO (.slice ba bL.length bc) Jv Ur);have Jw:Hid (∀(w7 W8:World) (Xt Xh:Value) (en vv:Int),IS C w7 (some q) Xt Xh z2->ak (dt C (some q) vO) W6 w7->(∀k,Xh.ownBlock=some k->vO.ownBlock=some k∨W6.heap.size<=k)->W8=w7.alloc (.cells #[V en,V vv] 75)->_):=λw7 W8 Xt Xh en vv g1 g2 g3 g4=>DW (en:=en) (vv:=vv) (F1:=F1) Z.out H0.out Xa.out Vn.out HM.out J_ X_ Vb g1 g2 g3 Xv.2.1 Xv.2.2.1 g4;have Ou:(f:Int)<(C.t.funcs.length:Int):=o_
   have Uu:=ah Xv.2.1;clear Xp Xl Jv X_ Vb Xv Zv Xs;go_wp2_with fail;refine Xe.out.mono ?_;rintro e w7 ⟨Xt,Xh,rfl,Zw,Vo,Zz⟩;clear x3 xb;obtain⟨en,Y_⟩:=q_ (bW J);obtain⟨vv,Xz⟩:=q_ (cI J);rw[<-Y_,<-Xz];obtain⟨W8,Yv⟩:=q_ (w7.alloc (.cells #[V en,V vv] 75));obtain⟨B,hB⟩:=q_ w7.heap.size;obtain⟨Uk,Ua,Zk,Jq⟩:=Jw.out w7 W8 Xt Xh en vv Zw Vo Zz Yv;rw[<-hB]at Uk Ua;simp only[<-hB]at Jq;obtain⟨W9,Ys⟩:=q_ W8.drew;obtain⟨Vy,Jr⟩:=q_ ((W9.setCell ⟨C.P,10,none⟩ (V s.n)).setCell ⟨C.P,5,none⟩ (.map vV));have Yi:Bl W8 W9:=by rw[Ys];exact r_.drew
   obtain⟨Ye,Zx,⟨Jl,Xg,Jo⟩,Jt,Xn,Xi⟩:=Jq W9 Vy Yi Jr;rw[<-Ue.out]at Jl Jt;have Jn:=Zk.below Z.out Yi;have Je:=(Jn.box 10 _ rfl).1;have Yy:=(Jn.box 10 _ rfl).2;have x5:=(Jn.box 5 _ rfl).1;have f5:=(Jn.box 5 _ rfl).2;have x9:=(Jn.box 9 _ rfl).1;rw[Xf.out]at x9;rw[Uu.out]at Je;have I:Hid (W9.cell? ⟨C.P,10,none⟩=some (V (s.n+F1))/\W9.cell? ⟨C.P,9,none⟩=some (.slice (some ⟨bF,oF,none⟩) C.fr.length fc)/\W9.cell? ⟨bF,oF+f,none⟩=some (V F1)):=⟨Je,x9,Yq.out W9 _ _ _ _ _ _ _ Jn Vc⟩;have Ob:s.n+F1-F1=s.n:=o_;have Oh:IntKind.i64.wrap s.n=s.n:=by simp[IntKind.wrap,IntKind.bits,IntKind.signed];omega
   have Yd:Hid (bW J.back=en->_):=λg=>cC Z.out HM.out H0.out Xa.out J_ Jl Xg Ye r_ Jo J.back (a:=en) (b:=vv) g ((rC J).trans Xz.symm);have Zc:Hid (bW J.back=0->_):=λg=>cC Z.out HM.out H0.out Xa.out J_ Jt Xn Ye r_ Xi J.back (a:=0) (b:=vv) g ((rC J).trans Xz.symm);have Uh:=ah Yv;have Vx:=ah hB;have Vv:=ah Ys;have Yt:=ah Jr;have Yf:=ah Zx;have Jf:=ah Jo;have Xy:=ah Y_;have Jx:∀c,J=.out c->c=2∨c=3:=Yl.out;have Od:=ah Jx;clear Zw Vo Zz Yv hB Jq Ys Jr Yi Ye Zx Jl Xg Jo Jt Xn Xi Zk Jn x9 Y_ Xz Jx Jw Xe;go_upto_region 11 with fail;rw[<-Uh.out,<-Vx.out];refine aM 14 (λX=>X.cell? ⟨C.P,10,none⟩=some (V (s.n+F1))/\X.cell? ⟨C.P,9,none⟩=some (.slice (some ⟨bF,oF,none⟩) C.fr.length fc)/\X.cell? ⟨bF,oF+f,none⟩=some (V F1)) k_ ?_;rw[<-Vv.out];refine tk 0 [1,2,3,11,14] I.out ?_;refine tk 1 [2,3,11,14] I.out ?_;refine tk 2 [3,11,14] I.out ?_;refine tk 3 [11,14] I.out ?_;refine tk 4 [5,6,7,9,10,11,14] I.out ?_;refine tk 5 [6,7,9,10,11,14] I.out ?_;refine tk 6 [7,9,10,11,14] I.out ?_;refine tk 7 [9,10,11,14] I.out ?_;refine tk 8 [9,10,11,14] I.out ?_;refine tk 9 [10,11,14] I.out ?_;refine tk 10 [11,14] I.out ?_;refine tk 11 [14] I.out ?_;refine tk 12 [13,14] I.out ?_;refine tk 13 [14] I.out ?_;clear I;refine aq (i:=14) k_ rfl (λK hK=>?_);go_simp;refine hK.out _ _ (λh=>absurd rfl h) ?_;clear hK K Je Yy;refine aJ k_ ?_ _;go_upto_region 13 with fail;rw[<-Yt.out];clear x5 f5;have z0:=(Yf.out 0 _ rfl).1;have g0:=(Yf.out 0 _ rfl).2;have z1:=(Yf.out 1 _ rfl).1;by_cases he:en=2
   ·have Xm:bW J.back=0:=by
     rcases AH J (by rw[<-Xy.out];exact he)with g|⟨c,g⟩
     ·exact g
     ·have h1:=Xy.out;rw[g]at h1;have h2:en=c+1:=h1;rcases Od.out c g with g2|g2 <;> omega
    have HF:=ah (Zc.out Xm);obtain⟨u0,v0⟩:=Jf.out 0 _ rfl;obtain⟨u1,v1⟩:=Jf.out 1 _ rfl;clear Yd Zc Xm;subst he;go_wp2_with fail;obtain⟨t0,t1,hQ⟩:=HF.out;exact bodyPost_ret (v:=.agg #[V 0,V vv]) (by simp[results,results39,go_sem,t0,t1]) rfl hQ
   ·have On:(en == 2)=false:=by simpa using he
    have Xm:bW J.back=en:=by rw[Cb J (by rw[<-Xy.out];exact he),Xy]
    have HF:=ah (Yd.out Xm);obtain⟨u0,v0⟩:=Jf.out 0 _ rfl;obtain⟨u1,v1⟩:=Jf.out 1 _ rfl;clear Yd Zc Xm he;go_wp2_with fail;obtain⟨t0,t1,hQ⟩:=HF.out;exact bodyPost_ret (v:=.agg #[V en,V vv]) (by simp[results,results39,go_sem,t0,t1]) rfl hQ
end
def DX{t:Tr}{fr:List Int}{k:Tk}{s:ES}{r:ER}{s':ES}(h:Ev t fr 0 k s r s'):False:=by cases h using Ev_i
theorem AJ{C:IC}(hC:C.Ok):∀n,DH C n/\FX C n/\Ff C n
 | 0=>by
  refine⟨?_,?_,?_⟩
  ·intro e s r s' hE;exact(DX hE).elim
  ·intro f vs s r s' hE;exact(DX hE).elim
  ·intro L z r z' hE;exact(DX hE).elim
 | n+1=>by
  obtain⟨h1,h2,h3⟩:=AJ hC n;exact⟨Au C hC n h1 h2,AI hC h3,AG hC (AB hC h1 h3)⟩
section
variable{w W1 wn wr w':AT}{t:Tr}{vg vf vI vFr:BY}{F:Int}{B0 bm n P bN bM k:Nat}{D:DataW Unit}{gb:List Nat}
def Fh(vg vf:BY)(bN:Nat)(vB vM:BY)(vI:BY)(F:Int)(vFr:BY):List BY:=[vg,vf,.map (some bN),vB,vM,.map none,vI,nV,V F,vFr,V 0,V 0]
structure Fi (w:AT) (t:Tr) (vg vf vI:BY) (F:Int) (vFr:BY) (B0 P bN:Nat) (W:AT):Prop where
 box:aK W P (Fh vg vf bN nV (.map none) vI F vFr)
 tre:aK W B0 [vg,vf]
 num:∃n D,W.ownsMap prog 9 (plainElem (H:=Unit) prog 2) bN n D/\cR D t.funcs
 bel:Bl w W
 ne:B0=w.heap.size/\B0<P/\B0<bN/\bN≠P
def EY(Y:B0=w.heap.size)(Jg:W1.heap.size=w.heap.size+1)(J:Bl w W1)(Je:aK W1 B0 [vg,vf])(I:Bl W1 wn)(U:wn.ownsMap prog 9 (plainElem (H:=Unit) prog 2) bm n D)(Jh:W1.heap.size<=bm)(Z:cR D t.funcs):
  Fi w t vg vf vI F vFr B0 wn.heap.size bm (wn.alloc (.cells #[vg,vf,.map (some bm),nV,.map none,.map none,vI,nV,V F,vFr,V 0,V 0] 81)):=by
 have h:Bl wn (wn.alloc (.cells #[vg,vf,.map (some bm),nV,.map none,.map none,vI,nV,V F,vFr,V 0,V 0] 81)):=au _ _;have s1:=I.size;have Jf:=U.lt;exact⟨aH wn #[vg,vf,.map (some bm),nV,.map none,.map none,vI,nV,V F,vFr,V 0,V 0] 81 i_,(Je.below I).below h,⟨n,D,bK U (h.tcs (S:=λ_=>False)) (λe=>e),Z⟩,(J.trans (I.mono J.size)).trans (h.mono o_),Y,o_,o_,o_⟩
theorem EZ(hP:P=W1.heap.size)(Jd:B0=w.heap.size)(Jg:W1.heap.size=w.heap.size+1)(J:Bl w W1)(Jf:aK W1 B0 [vg,vf])(I:Bl W1 wn){Z:List BY}(hq:aK wn P Z)(hZ:Z.length=12)(Jc:wn.ownsMap prog 9 (plainElem (H:=Unit) prog 2) bm n D)(Jh:W1.heap.size+1<=bm)(Je:cR D t.funcs):
  Fi w t vg vf vI F vFr B0 P bm ((((((((((((wn.setCell ⟨P,0,none⟩ vg).setCell ⟨P,1,none⟩ vf).setCell ⟨P,2,none⟩ (.map (some bm))).setCell ⟨P,3,none⟩ nV).setCell ⟨P,4,none⟩ (.map none)).setCell ⟨P,5,none⟩ (.map none)).setCell ⟨P,6,none⟩ vI).setCell ⟨P,7,none⟩ nV).setCell ⟨P,8,none⟩ (V F)).setCell ⟨P,9,none⟩ vFr).setCell ⟨P,10,none⟩ (V 0)).setCell ⟨P,11,none⟩ (V 0)):=by
 have h:ak (λk=>k=P) wn ((((((((((((wn.setCell ⟨P,0,none⟩ vg).setCell ⟨P,1,none⟩ vf).setCell ⟨P,2,none⟩ (.map (some bm))).setCell ⟨P,3,none⟩ nV).setCell ⟨P,4,none⟩ (.map none)).setCell ⟨P,5,none⟩ (.map none)).setCell ⟨P,6,none⟩ vI).setCell ⟨P,7,none⟩ nV).setCell ⟨P,8,none⟩ (V F)).setCell ⟨P,9,none⟩ vFr).setCell ⟨P,10,none⟩ (V 0)).setCell ⟨P,11,none⟩ (V 0)):=(((((((((((((ak.refl (λk=>k=P) wn).setCell (p:=⟨P,0,none⟩) rfl vg).setCell (p:=⟨P,1,none⟩) rfl vf).setCell (p:=⟨P,2,none⟩) rfl (.map (some bm))).setCell (p:=⟨P,3,none⟩) rfl nV).setCell (p:=⟨P,4,none⟩) rfl (.map none)).setCell (p:=⟨P,5,none⟩) rfl (.map none)).setCell (p:=⟨P,6,none⟩) rfl vI).setCell (p:=⟨P,7,none⟩) rfl nV).setCell (p:=⟨P,8,none⟩) rfl (V F)).setCell (p:=⟨P,9,none⟩) rfl vFr).setCell (p:=⟨P,10,none⟩) rfl (V 0)).setCell (p:=⟨P,11,none⟩) rfl (V 0));have U:=((((((((((((hq.set 0 vg).set 1 vf).set 2 (.map (some bm))).set 3 nV).set 4 (.map none)).set 5 (.map none)).set 6 vI).set 7 nV).set 8 (V F)).set 9 vFr).set 10 (V 0)).set 11 (V 0));match Z,hZ with
 | [z0,z1,z2,z3,z4,z5,z6,z7,z8,z9,z10,z11],_=>
  have s1:=I.size;have Y:B0<wn.heap.size:=o_;exact⟨U,(Jf.below I).tcs Y h (λe=>by have e':B0=P:=e;omega),⟨n,D,bK Jc h (λe=>by have e':bm=P:=e;omega),Je⟩,h.below (J.trans (I.mono J.size)) o_ (λk hk=>by have e:k=P:=hk;omega),Jd,o_,o_,o_⟩
structure pU (w:AT) (t:Tr) (vg vf vI:BY) (F:Int) (vFr:BY) (B0 P bN bM k:Nat) (gb:List Nat) (W:AT):Prop where
 box:aK W P (Fh vg vf bN nV (.map (some bM)) vI F vFr)
 tre:aK W B0 [vg,vf]
 num:∃n D,W.ownsMap prog 9 (plainElem (H:=Unit) prog 2) bN n D/\cR D t.funcs
 glb:∃D,W.ownsMap prog 9 fC bM k D/\ge D (t.globals.take k) gb
 gbl:gb.length=k
 gw:∀j (hj:j<gb.length) (hk:j<t.globals.length),aK W gb[j] (Bh (dV t.globals[j]))
 gr:∀b∈gb,bM<b/\b<W.heap.size
 nd:gb.Nodup
 bel:Bl w W
 ne:B0=w.heap.size/\B0<P/\B0<bN/\bN≠P/\P<bM/\bN<bM/\bM<W.heap.size
def E_{I:AT}(h:Fi w t vg vf vI F vFr B0 P bN I):pU w t vg vf vI F vFr B0 P bN I.heap.size 0 [] ((I.setCell ⟨P,4,none⟩ (.map (some I.heap.size))).alloc (.map #[] 0)):=by
 obtain⟨n,D,Y,h2⟩:=h.num;obtain⟨e1,e2,e3,e4⟩:=h.ne;have Jb:=Y.lt;have hP:=b_ (h.box 0 _ rfl).1;have Ja:P<I.heap.size:=hP;have hB:B0<I.heap.size:=o_;have J:(I.setCell ⟨P,4,none⟩ (.map (some I.heap.size))).alloc (.map #[] 0)=(I.alloc (.map #[] 0)).setCell ⟨P,4,none⟩ (.map (some I.heap.size)):=by rw[setCell_alloc_past _ _ _ _ Ja]
 have Z:Bl I (I.alloc (.map #[] 0)):=au _ _;have U:ak (λk=>k=P) I ((I.setCell ⟨P,4,none⟩ (.map (some I.heap.size))).alloc (.map #[] 0)):=by
  rw[J];exact(Z.tcs (S:=λk=>k=P)).setCell (p:=⟨P,4,none⟩) rfl _
 have hm:((I.setCell ⟨P,4,none⟩ (.map (some I.heap.size))).alloc (.map #[] 0)).ownsMap prog 9 fC I.heap.size 0 (.map []):=by
  rw[J];exact bK (ownsMap_made I prog 9 _) ((ak.refl (λk=>k=P) _).setCell (p:=⟨P,4,none⟩) rfl _) (λe=>by have e':I.heap.size=P:=e;omega)
 have hs:((I.setCell ⟨P,4,none⟩ (.map (some I.heap.size))).alloc (.map #[] 0)).heap.size=I.heap.size+1:=by rw[J];simp
 refine⟨?_,h.tre.tcs hB U (λe=>by have e':B0=P:=e;omega),⟨n,D,bK Y U e4,h2⟩,⟨_,hm,Fc ge.nil⟩,rfl,λj hj=>by simp at hj,λb hb=>by simp at hb,nodup_nil,U.below h.bel h.bel.size (λk hk=>by have e:k=P:=hk;omega),e1,e2,e3,e4,Ja,Jb,o_⟩;rw[J];exact(h.box.below Z).set 4 _
def pU.past{S:D6}(h:pU w t vg vf vI F vFr B0 P bN bM k gb wr)(I:ak S wr w')(Y:∀b,S b->wr.heap.size<=b):pU w t vg vf vI F vFr B0 P bN bM k gb w':=by
 obtain⟨n,D,h1,h2⟩:=h.num;obtain⟨D2,h3,h4⟩:=h.glb;obtain⟨e1,e2,e3,e4,Z,e6,e7⟩:=h.ne;have J:∀b,b<wr.heap.size->¬S b:=λb hb U=>Ft (Y b U)
 have U:=I.size;exact⟨h.box.tcs o_ I (J _ o_),h.tre.tcs o_ I (J _ o_),⟨n,D,bK h1 I (J _ o_),h2⟩,⟨D2,bK h3 I (J _ e7),h4⟩,h.gbl,λj hj hk=>(h.gw j hj hk).tcs (h.gr _ (g_ hj)).2 I (J _ (h.gr _ (g_ hj)).2),λb hb=>⟨(h.gr b hb).1,by have:=(h.gr b hb).2;omega⟩,h.nd,I.below h.bel h.bel.size (λb hb=>Fw (Y b hb) h.bel.size),e1,e2,e3,e4,Z,e6,o_⟩
def pU.below(h:pU w t vg vf vI F vFr B0 P bN bM k gb wr)(hb:Bl wr w'):pU w t vg vf vI F vFr B0 P bN bM k gb w':=
 h.past (hb.tcs (S:=λ_=>False)) (λb hb=>hb.elim)
def pU.more{I w5:AT}(h:pU w t vg vf vI F vFr B0 P bN bM k gb I)(Jb:(t.globals.map (·.name)).Nodup)(Y:k<t.globals.length)(hz:dV t.globals[k]<=4000){D:DataW BY}(hD:ge D (t.globals.take k) gb)
  (ho:w5.ownsMap prog 9 fC bM (k+1) (D.put (kS t.globals[k].name) (.held (rV I.heap.size (dV t.globals[k]) (dV t.globals[k]))))) (hg:(I.alloc (.cells (Array.replicate (dV t.globals[k]) (V 0)) 2)).grownBy w5 (some bM)):pU w t vg vf vI F vFr B0 P bN bM (k+1) (gb++[I.heap.size]) w5:=by
 have Z:Bl I (I.alloc (.cells (Array.replicate (dV t.globals[k]) (V 0)) 2)):=au _ _;have Jc:(I.alloc (.cells (Array.replicate (dV t.globals[k]) (V 0)) 2)).heap.size=I.heap.size+1:=i_;have Ja:aK (I.alloc (.cells (Array.replicate (dV t.globals[k]) (V 0)) 2)) I.heap.size (Bh (dV t.globals[k])):=by
  have:=uh I (Array.replicate (dV t.globals[k]) (V 0)) 2 ZFs
  simpa[Bh]using this
 have h4:=h.below Z;have J:ak (λb=>b=bM) (I.alloc (.cells (Array.replicate (dV t.globals[k]) (V 0)) 2)) w5:=ak.of_grown hg (λk Y=>by cases Y;rfl);have hs:=J.size;obtain⟨n,D1,h1,h2⟩:=h4.num;obtain⟨e1,e2,e3,e4,e5,e6,e7⟩:=h.ne;have hl:gb.length=(t.globals.take k).length:=by rw[h.gbl,length_take];omega
 refine⟨h4.box.tcs o_ J (λe=>by have U:P=bM:=e;omega),h4.tre.tcs o_ J (λe=>by have U:B0=bM:=e;omega),⟨n,D1,bK h1 J (λe=>by have U:bN=bM:=e;omega),h2⟩,⟨_,ho,?_⟩,by simp[h.gbl],λj hj hjk=>?_,λb hb=>?_,?_,J.below h4.bel h4.bel.size (λb hb=>by have e:b=bM:=hb;omega),e1,e2,e3,e4,e5,e6,o_⟩
 ·rw[take_succ_eq_append_getElem Y];exact hD.put hl (Ah Jb Y)
 ·by_cases hjb:j<gb.length
  ·have e:(gb++[I.heap.size])[j]=gb[j]:=getElem_append_left hjb;rw[e];have hr:=h.gr _ (g_ hjb);exact(h4.gw j hjb hjk).tcs o_ J (λe=>by have U:gb[j]=bM:=e;omega)
  ·have ej:j=k:=by rw[l_a,length_singleton]at hj;have:=h.gbl;omega
   subst ej;have e:(gb++[I.heap.size])[j]=I.heap.size:=by
    rw[getElem_append_right (Ft h.gbl)];simp
   rw[e];exact Ja.tcs o_ J (λe=>by have U:I.heap.size=bM:=e;omega)
 ·rcases GJ.1 hb with hb|hb
  ·have:=h.gr b hb
   exact⟨this.1,o_⟩
  ·simp only[GM]at hb;subst hb;exact⟨e7,o_⟩
 ·rw[nodup_append];refine⟨h.nd,i_,λa Z b hb e=>?_⟩;simp only[GM]at hb;subst hb;subst e;have:=(h.gr _ Z).2
  omega
end
section
variable{W Wm:AT}{t:Tr}{vg vf vI vFr vB:BY}{F:Int}{P bN bM k:Nat}{S:D6}
def AK:(prog.info? 118).map (λi=>(i.zero,i.size,i.bytes))=some (some nV,1,24):=by kernel_rfl
def Cc{B n:Nat}{I:BY}{Y:List BY}(h:W.ownsRow B 118 1 I n Y)(z:BY)(hz:z.oneCell'=true)(hB:B<=W.heap.size)(hn:n<=1000000):
  ∃va vc w3,(Builtin.append_ #[78,78] 78 #[I,rV W.heap.size 1 1]).run prog (W.alloc (.cells #[z] 118))=.ok (.slice va (n+1) vc) w3/\w3.ownsRow B 118 1 (.slice va (n+1) vc) (n+1) (Y++[z])/\ak (λk=>I.ownBlock=some k) W w3/\∀k,(Value.slice va (n+1) vc).ownBlock=some k->I.ownBlock=some k∨W.heap.size<k:=by
 obtain⟨Z,hi,Jd,Je,Jc⟩:=info_parts AK;have J:Bl W (W.alloc (.cells #[z] 118)):=au _ _;have h':=ownB h J;have Jb:(W.alloc (.cells #[z] 118)).ownsRow W.heap.size 118 1 (rV W.heap.size 1 1) 1 [z]:=ownsRow_lit W #[z] 1 n_ d_ rfl;obtain⟨v',w',r1,U,r3,r4⟩:=cE (P:=prog) (w:=W.alloc (.cells #[z] 118)) B 78 78 118 Z _ 1 24 underlying78 hi Jd Je Jc rfl d_ I _ _ h' (some ⟨W.heap.size,0,none⟩) 1 1 [z] (λe=>by cases e) rfl (λad had k u hu=>by cases had;exact ownsRow.cells Jb (g:=W.heap.size) rfl k u hu) (λu hu=>by simp at hu;subst hu;exact hz) o_ d_ (Ft J.size);obtain⟨va,vc,rfl,-⟩:=bj U;refine⟨va,vc,w',r1,U,(J.tcs (S:=λk=>I.ownBlock=some k)).next (T:=λk=>I.ownBlock=some k) (ak.of_grown r3 (λk hk=>hk)) (λk hk=>.inl hk),λk hk=>(r4 k hk).imp id λh1=>?_⟩;rw[GO]at h1;omega
structure AL (t:Tr) (vg vf vI:BY) (F:Int) (vFr:BY) (P bN bM:Nat) (Wm:AT) (k:Nat) (vB:BY) (S:D6) (W:AT):Prop where
 box:aK W P (Fh vg vf bN vB (.map (some bM)) vI F vFr)
 tc:ak (λb=>b=P) Wm W
 row:∃xs:List BY,xs.length=k/\W.ownsRow Wm.heap.size 118 1 vB k xs/\∀f,f<k->∃a cap L,xs[f]? =some (.slice a L.length cap)/\pT W S (.slice a L.length cap) L/\(t.funcs.getD f ⟨⟨#[]⟩,[],[]⟩).body=dd L
 sS:∀B,S B->Wm.heap.size<=B/\B<W.heap.size/\vB.ownBlock≠some B
 pm:P<Wm.heap.size
def Fa(h:aK Wm P (Fh vg vf bN nV (.map (some bM)) vI F vFr)):AL t vg vf vI F vFr P bN bM Wm 0 nV (λ_=>False) Wm:=
 ⟨h,ak.refl _ _,⟨[],rfl,ownsRow_nil _ _ _ _,λf hf=>absurd hf o_⟩,λB hB=>hB.elim,b_ (h 0 _ rfl).1⟩
def AL.below{J:AT}(h:AL t vg vf vI F vFr P bN bM Wm k vB S W)(I:Bl W J):AL t vg vf vI F vFr P bN bM Wm k vB S J:=by
 obtain⟨xs,h1,h2,h3⟩:=h.row;refine⟨h.box.below I,h.tc.of_below I,⟨xs,h1,ownB h2 I,λf hf=>?_⟩,λB hB=>⟨(h.sS B hB).1,by have:=(h.sS B hB).2.1;have:=I.size;omega,(h.sS B hB).2.2⟩,h.pm⟩;obtain⟨a,Z,L,Y,U,g3⟩:=h3 f hf;exact⟨a,Z,L,Y,U.bel (λB hB=>(h.sS B hB).2.1) I,g3⟩
def AL.more{N:Nat}{S':D6}{w5:AT}{x:BY}(h:AL t vg vf vI F vFr P bN bM Wm k vB S w5)(hx:Bk w5 S' x (t.funcs.getD k ⟨⟨#[]⟩,[],[]⟩).body)(U:∀B,S' B->N<=B/\B<w5.heap.size)(hN:Wm.heap.size<=N)(Je:∀B,vB.ownBlock=some B->B<N)(hk:k<=1000):
  ∃xa xn xc va vc w6,x=.slice xa xn xc/\(Builtin.append_ #[78,78] 78 #[vB,rV w5.heap.size 1 1]).run prog (w5.alloc (.cells #[x] 118))=.ok (.slice va (k+1) vc) w6/\(DO w6 P 3 vB/\D4 w6 P 3)/\ak (λb=>vB.ownBlock=some b) w5 w6/\AL t vg vf vI F vFr P bN bM Wm (k+1) (.slice va (k+1) vc) (λB=>S B∨S' B) (w6.setCell ⟨P,3,none⟩ (.slice va (k+1) vc)):=by
 obtain⟨L,hL,Ja⟩:=hx.toL;obtain⟨xa,xc,rfl,-⟩:=hL.args;obtain⟨xs,h1,h2,h3⟩:=h.row;have sM:=h.tc.size;obtain⟨va,vc,w6,r1,r2,Y,r4⟩:=Cc h2 (.slice xa L.length xc) rfl sM o_;have Jd:=λb hb=>ownsRow.lt h2 b hb;have Jh:=h.pm;have Ji:¬vB.ownBlock=some P:=λe=>by have:=(Jd _ e).1;omega
 have Jc:=h.box.tcs o_ Y Ji;have t2:ak (λb=>b=P) w6 (w6.setCell ⟨P,3,none⟩ (.slice va (k+1) vc)):=(ak.refl (λb=>b=P) w6).setCell (p:=⟨P,3,none⟩) rfl _;have I:ak (λb=>vB.ownBlock=some b∨b=P) w5 (w6.setCell ⟨P,3,none⟩ (.slice va (k+1) vc)):=(Y.mono (λb hb=>.inl hb)).next t2 (λb hb=>.inl (.inr hb));have s4:=I.size;have Jf:∀B,S B->(w6.setCell ⟨P,3,none⟩ (.slice va (k+1) vc)).heap[B]? =w5.heap[B]? := λB hB=>I.block B (h.sS B hB).2.1 (λe=>e.elim (h.sS B hB).2.2 (λe=>by have:=(h.sS B hB).1;omega));have Jb:∀B,S' B->(w6.setCell ⟨P,3,none⟩ (.slice va (k+1) vc)).heap[B]? =w5.heap[B]? := λB hB=>I.block B (U B hB).2 (λe=>e.elim (λe=>by have:=Je B e;have:=(U B hB).1;omega) (λe=>by have:=(U B hB).1;omega));refine⟨xa,L.length,xc,va,vc,w6,rfl,r1,Jc 3 _ rfl,Y,Jc.set 3 _,?_,⟨xs++[.slice xa L.length xc],by simp[h1],aO r2 t2 (λb hb e=>by have e':b=P:=e;have:=(ownsRow.lt r2 b hb).1;omega),λf hf=>?_⟩,λB hB=>?_,Jh⟩
 ·exact h.tc.next I (λb hb=>hb.elim (λe=>.inr (Jd b e).1) (λe=>.inl e))
 ·by_cases hfk:f<k
  ·obtain⟨a,Jg,L2,J,Z,g3⟩:=h3 f hfk;exact⟨a,Jg,L2,by rw[getElem?_append_left o_];exact J,Z.keep (λB hB=>.inl hB) Jf,g3⟩
  ·obtain rfl:f=k:=by omega
   exact⟨xa,xc,L,by rw[getElem?_append_right o_,h1];simp,hL.keep (λB hB=>.inr hB) Jb,Ja⟩
 ·rcases hB with hB|hB
  ·obtain⟨J,Z,g3⟩:=h.sS B hB;exact⟨J,o_,λe=>(r4 B e).elim g3 (λe=>by omega)⟩
  ·obtain⟨J,Z⟩:=U B hB;exact⟨o_,o_,λe=>(r4 B e).elim (λe=>Ft (Je B e)) (λe=>by omega)⟩
end
def rD(h:List Fu)(k:Nat)(I:k<h.length):(h.getD k ⟨⟨#[]⟩,[],[]⟩).body=h[k].body:=by simp[List.getD,I]
def pU.moreN{w J W4 w5:AT}{t:Tr}{vg vf U Ja:BY}{F:Int}{Y P Z I k N:Nat}{gb:List Nat}(h:pU w t vg vf U F Ja Y P Z I k gb J)(Jc:(t.globals.map (·.name)).Nodup)(hk:k<t.globals.length)(hN:N=dV t.globals[k])(hz:N<=4000)(Jb:W4=J.alloc (.cells (Array.replicate N (.int .i64 0)) 2)){D:DataW BY}(hD:ge D (t.globals.take k) gb)
  (ho:w5.ownsMap prog 9 fC I (k+1) (D.put (kS t.globals[k].name) (.held (rV J.heap.size N N)))) (hg:W4.grownBy w5 (some I)):pU w t vg vf U F Ja Y P Z I (k+1) (gb++[J.heap.size]) w5:=by
 subst hN;subst Jb;exact h.more Jc hk hz hD ho hg
theorem AM(t:Tr)(vg vf vI Xr:Value)(F:Int)(w:World)(hl:t.funcs.length<=1000)(Vt:t.globals.length<=1000)(hw:uR t.funcs)(hf:bC w vf t.funcs)(hg:cK w vg t.globals)(hT:dq w)(Zj:∀f∈t.funcs,cM f.body=true/\(∀s∈f.body,stmtB s=true/\s.e.length<=2000/\s.f.length<=2000)/\f.body.length<=1000)(Zk:∀g∈t.globals,0<=g.size/\g.size<=4000)(Zm:∀g∈t.globals,g.name.size<=maxLen)(Zl:(t.globals.map (·.name)).Nodup)(hI:∃ai ni ci,vI=.slice ai ni ci)(hF:∃ai ni ci,Xr=.slice ai ni ci):
  Calls prog 38 #[.agg #[vg,vf],vI,V F,Xr] w λe w'=>∃B0 P bN bM gb Wm vB S,e=rW (pV P)/\pU w t vg vf vI F Xr B0 P bN bM t.globals.length gb Wm/\AL t vg vf vI F Xr P bN bM Wm t.funcs.length vB S w':=by
 obtain⟨ai,ni,ci,rfl⟩:=hI;obtain⟨aF,nF,cF,rfl⟩:=hF;have Yb:=ah hf;have Jn:=ah hw;obtain⟨af,cf,rfl,-,-,Jw⟩:=hf;have Zo:=ah Jw;have Xa:=ah hT;have Vd:=ah Zj;clear Jw hT Zj;obtain⟨ag,cg,rfl,-,-,Jy⟩:=hg;have Vb:=ah Jy;have Zw:=ah Zk;have Vi:=ah Zm;have Vf:=ah Zl;clear Jy Zk Zm Zl;obtain⟨W1,Xb⟩:=q_ (w.alloc (.cells #[.slice ag t.globals.length cg,.slice af t.funcs.length cf] 34));have Jt:Bl w W1:=by rw[Xb];exact r_.alloc n_ _
 have Xd:aK W1 w.heap.size [.slice ag t.globals.length cg,.slice af t.funcs.length cf]:=by rw[Xb];exact aH w _ _ (by show 2<=1000;omega)
 have Ze:W1.heap.size=w.heap.size+1:=by rw[Xb,World.size_alloc]
 obtain⟨B0,Yf⟩:=q_ w.heap.size;rw[<-Yf]at Xd;have Zn:B0<W1.heap.size:=o_;have HY:Hid (∀W,Bl W1 W->W.cell? ⟨B0,0,none⟩=some (.slice ag t.globals.length cg)/\W.cell? ⟨B0,1,none⟩=some (.slice af t.funcs.length cf)):=λW hW=>⟨((Xd.below hW) 0 _ rfl).1,((Xd.below hW) 1 _ rfl).1⟩;have Jm:Hid (∀W,Bl W1 W->Calls prog 68 #[.agg #[.slice ag t.globals.length cg,.slice af t.funcs.length cf]] W λe w'=>∃b D,e=rW (.map (some b))/\W.heap.size<=b/\w'.ownsMap prog 9 (plainElem (H:=Unit) prog 2) b t.funcs.length D/\cR D t.funcs/\Bl W w'):=λW hW=>j6 t.funcs _ _ W o_ Jn.out ((Yb.out.below Jt).below hW);have Jk:Hid (Bl W1 W1.drew):=r_.drew;have Ju:Hid (∀o,Bl W1 (W1.alloc o).drew):=λo=>(r_.alloc n_ o).drew;have Za:=ah λwn (h:Below (W1.alloc (.cells #[nV,nV,.map none,nV,.map none,.map none,nV,nV,V 0,nV,V 0,V 0] 81)).drew.heap.size (W1.alloc (.cells #[nV,nV,.map none,nV,.map none,.map none,nV,nV,V 0,nV,V 0,V 0] 81)).drew wn)=>((aH W1 #[nV,nV,.map none,nV,.map none,.map none,nV,nV,V 0,nV,V 0,V 0] 81 (by show 12<=1000;omega)).below (r_.drew)).below h;have Ve:=ah Xb;have X_:=ah Yf;have Yr:=ah Jt;have Xy:=ah Xd;have Zg:=ah Ze;clear hw Xb Yf Jt Xd Ze;go_in;go_upto_region 1 with fail;rw[<-Ve.out,<-X_.out];go_cut [9]from 21 to 55 (λp W=>∃P bN,p=pV P/\Fi w t (.slice ag t.globals.length cg) (.slice af t.funcs.length cf) (.slice ai ni ci) F (.slice aF nF cF) B0 P bN W)
 case first=>
  have y0:=(HY.out _ Jk).1;have y1:=(HY.out _ Jk).2;have k2:∀o,(W1.alloc o).drew.cell? ⟨B0,0,none⟩=some (.slice ag t.globals.length cg)/\(W1.alloc o).drew.cell? ⟨B0,1,none⟩=some (.slice af t.funcs.length cf):=λo=>HY.out _ (Ju.out o);have Vn:¬B0=W1.heap.size:=o_
  have Vj:¬W1.heap.size=B0:=o_
  go_region_held (λW=>W.cell? ⟨B0,0,none⟩=some (.slice ag t.globals.length cg)/\W.cell? ⟨B0,1,none⟩=some (.slice af t.funcs.length cf)) (first | (with_reducible exact k2 _) | (with_reducible exact qa _) | go_keep)
   (first
   | ((with_reducible refine Calls.mono (Jm.out _ Jk.out) ?_);intro x wn hx;obtain⟨bm,D,Xw,Yi,Xs,Xv,Jg⟩:=hx;subst Xw;have q:=HY.out wn (Jk.out.trans (Jg.mono i_));have qa:∀o,(wn.alloc o).cell? ⟨B0,0,none⟩=some (.slice ag t.globals.length cg)/\(wn.alloc o).cell? ⟨B0,1,none⟩=some (.slice af t.funcs.length cf):=λo=>HY.out (wn.alloc o) ((Jk.out.trans (Jg.mono i_)).alloc (by have:=Jg.size;simp at this;omega) o))
   | ((with_reducible refine Calls.mono (Jm.out _ (Ju.out _)) ?_);intro x wn hx;obtain⟨bm,D,Xw,Yi,Xs,Xv,Jg⟩:=hx;subst Xw;have q:=HY.out wn ((Ju.out _).trans (Jg.mono i_));have Y:=Za.out wn Jg;obtain⟨b0,f0⟩:=Y 0 _ rfl;obtain⟨b1,f1⟩:=Y 1 _ rfl;obtain⟨b2,f2⟩:=Y 2 _ rfl;obtain⟨b3,f3⟩:=Y 3 _ rfl;obtain⟨b4,f4⟩:=Y 4 _ rfl;obtain⟨b5,f5⟩:=Y 5 _ rfl;obtain⟨b6,f6⟩:=Y 6 _ rfl;obtain⟨b7,f7⟩:=Y 7 _ rfl;obtain⟨b8,f8⟩:=Y 8 _ rfl;obtain⟨b9,f9⟩:=Y 9 _ rfl;obtain⟨Vq,Vr⟩:=Y 10 _ rfl;obtain⟨Vp,Vo⟩:=Y 11 _ rfl))
  all_goals (go_wp2_with fail)
  all_goals go_meet
  ·have Z:Bl W1 wn:=Jk.out.trans (Jg.mono i_);exact⟨wn.heap.size,bm,rfl,EY X_.out Zg.out Yr.out Xy.out Z Xs (by simpa using Yi) Xv⟩
  ·have Z:Bl W1 wn:=(Ju.out _).trans (Jg.mono i_);exact⟨W1.heap.size,bm,rfl,EZ rfl X_.out Zg.out Yr.out Xy.out Z Y rfl Xs (by simpa using Yi) Xv⟩
 case rest=>
  obtain⟨P,bN,rfl,hA⟩:=hcut;have I:=E_ hA;obtain⟨W2,Xz⟩:=q_ ((wc.setCell ⟨P,4,none⟩ (.map (some wc.heap.size))).alloc (.map #[] 0));obtain⟨bM,Yt⟩:=q_ wc.heap.size;rw[<-Xz,<-Yt]at I;have y4:=(hA.box 4 _ rfl).1;have f4:=(hA.box 4 _ rfl).2;have x0:=(I.tre 0 _ rfl).1;have HB:=ah I;have Ym:=ah Xz;have Zx:P<wc.heap.size:=by have:=I.ne;omega
  have Vh:= @run_makeMap prog;clear hA I Xz Yt Za Jk Ju Jm HY Xy;go_upto_region 3 with fail;rw[<-Ym.out];clear Vh y4 f4 Zx;go_wp2;go_loopw[26] (λi wr=>∃(k:Nat) (gb:List Nat),i=V (k:Int)/\k<=t.globals.length/\pU w t (.slice ag t.globals.length cg) (.slice af t.funcs.length cf) (.slice ai ni ci) F (.slice aF nF cF) B0 P bN bM k gb wr) (λi _=>t.globals.length-(RowKit.intOf i).toNat)
  case atStart=>exact⟨0,[],rfl,y_,HB⟩
  case round=>
   clear HB x0 Ym;obtain⟨k,gb,rfl,hk,I⟩:=hrel;by_cases hlt:k<t.globals.length
   ·have Zu:(k:Int)<(t.globals.length:Int):=o_
    have Xc:=ah hlt;have Zv:k<maxLen:=by unfold maxLen;omega
    obtain⟨bg,Yv,rfl,Yq⟩:=Vb.out o_;obtain⟨c0,c1⟩:=Yq k hlt;have Jx:bg<w.heap.size:=b_ c0;have d0:=(I.bel.cell (p:=⟨bg,_,none⟩) Jx).trans c0;have d1:=(I.bel.cell (p:=⟨bg,_,none⟩) Jx).trans c1;have Zp:=Zw.out _ (g_ hlt);obtain⟨N,hN⟩:=q_ (dV t.globals[k]);have Zs:(if t.globals[k].size<1 then 1 else t.globals[k].size)=(N:Int):=by
     rw[hN];unfold dV;split <;> split <;> omega
    have Yo:N<=4000:=by rw[hN];unfold dV;split <;> omega
    obtain⟨Wg,Jp⟩:=q_ (wr.alloc (.cells #[sV t.globals[k].name,V t.globals[k].size] 63));obtain⟨Bg,Yc⟩:=q_ wr.heap.size;have Zc:Bl wr Wg:=by rw[Jp];exact r_.alloc n_ _
    have Yl:aK Wg Bg [sV t.globals[k].name,V t.globals[k].size]:=by rw[Jp,Yc];exact aH wr _ _ (by show 2<=1000;omega)
    obtain⟨W3,Jl⟩:=q_ Wg.drew;have Jr:Bl Wg W3:=by rw[Jl];exact r_.drew
    have J_:=(I.below Zc).below Jr;have Je:=Yl.below Jr;obtain⟨W4,Xj⟩:=q_ (W3.alloc (.cells (Array.replicate N (V 0)) 2));have Xq:Bl W3 W4:=by rw[Xj];exact r_.alloc n_ _
    have Yu:=J_.below Xq;have Xt:=Je.below Xq;obtain⟨D,Yy,hD⟩:=J_.glb;have Jz:W4.ownsMap prog 9 fC bM k D:=bK Yy (Xq.tcs (S:=λ_=>False)) (λe=>e);have Z_:=yI N Yo W3;rw[<-Xj]at Z_;have Zi:t.globals[k].name.size<=maxLen:=Vi.out _ (g_ hlt);obtain⟨U,Ye,Jf,Jd⟩:=Jz.update (t:=79) (val:=rV W3.heap.size N N) (Maps.string_keyed underlying9) underlying79 Zv (WideMaps.keyOf_string_mk underlying9 Zi) (show fC _=some _ from rfl);have Vl:Hid (pU w t (.slice (some ⟨bg,Yv,none⟩) t.globals.length cg) (.slice af t.funcs.length cf) (.slice ai ni ci) F (.slice aF nF cF) B0 P bN bM (k+1) (gb++[W3.heap.size]) U):=by
     exact J_.moreN Vf.out hlt hN Yo Xj hD Jf Jd
    have Xg:W3.cell? ⟨P,4,none⟩=some (.map (some bM))/\W3.cell? ⟨Bg,0,none⟩=some (sV t.globals[k].name)/\W3.cell? ⟨Bg,1,none⟩=some (V t.globals[k].size):=⟨(J_.box 4 _ rfl).1,(Je 0 _ rfl).1,(Je 1 _ rfl).1⟩;have Xo:W4.cell? ⟨P,4,none⟩=some (.map (some bM))/\W4.cell? ⟨Bg,0,none⟩=some (sV t.globals[k].name)/\W4.cell? ⟨Bg,1,none⟩=some (V t.globals[k].size):=⟨(Yu.box 4 _ rfl).1,(Xt 0 _ rfl).1,(Xt 1 _ rfl).1⟩;generalize t.globals[k].name=gnm at d0 Jp Xg Xo Ye;generalize t.globals[k].size=gsz at d1 Jp Xg Xo Zs;have J:=ah Xg;have Va:=ah Xo;have Vk:=ah Jp;have Zr:=ah Yc;have Yd:=ah Jl;clear I Yq c0 c1 Zp hN Jp Yc Zc Yl Jl Jr J_ Je Xj Xq Yu Xt Yy hD Jz Jf Jd Xg Xo Zi;go_upto_region 6 with fail;rw[<-Vk.out,<-Zr.out];refine aM 8 (λX=>X.cell? ⟨P,4,none⟩=some (.map (some bM))/\X.cell? ⟨Bg,0,none⟩=some (sV gnm)/\X.cell? ⟨Bg,1,none⟩=some (V gsz)) k_ ?_;rw[<-Yd.out];refine tk 0 [1,8] J.out ?_;refine tk 1 [8] J.out ?_;refine tk 2 [3,8] J.out ?_;refine tk 3 [8] J.out ?_;refine tk 4 [5,6,7,8] J.out ?_;refine tk 5 [6,7,8] J.out ?_;refine tk 6 [7,8] J.out ?_;clear J;refine aq (i:=7) k_ rfl (λK hK=>?_);go_simp;refine hK.out _ _ (λ_=>Va) ?_;clear hK K;try simp only[Act.put,tA,tB,tC]
    refine aq (i:=8) k_ rfl (λK hK=>?_);go_simp;refine hK.out _ _ (λh=>absurd rfl h) ?_;clear hK K;refine aJ k_ ?_ _;go_wp2;go_roundw
    case rel=>exact⟨k+1,gb++[W3.heap.size],by go_num,by have:=Xc.out;omega,Vl⟩
    case measure=>have:=Xc.out;simp[RowKit.intOf];omega
   ·obtain rfl:k=t.globals.length:=by omega
    have Ys:=Fa (t:=t) I.box;have x1:=(I.tre 1 _ rfl).1;have Xn:=ah I;have Yp:=ah Ys;clear I Ys;go_wp2;go_loopw[42] (λi w2=>∃(k:Nat) (vB:Value) (S:Nat->Prop),i=V (k:Int)/\k<=t.funcs.length/\AL t (.slice ag t.globals.length cg) (.slice af t.funcs.length cf) (.slice ai ni ci) F (.slice aF nF cF) P bN bM wr k vB S w2) (λi _=>t.funcs.length-(RowKit.intOf i).toNat)
    case atStart=>exact⟨0,_,_,rfl,y_,Yp⟩
    case round=>
     clear Yp x1;obtain⟨k,vB,S,rfl,hk,hC⟩:=hrel;have Z:Bl w wr:=hC.tc.below Xn.out.bel Xn.out.bel.size (λb hb=>by have e:b=P:=hb;have:=Xn.out.ne;omega);by_cases hlt:k<t.funcs.length
     ·have Zu:(k:Int)<(t.funcs.length:Int):=o_
      have Xc:=ah hlt;obtain⟨bf,Yv,rfl,Yn⟩:=Zo.out o_;obtain⟨vp,vb,⟨c0,c1,c2⟩,Yx,Xe⟩:=Yn k hlt;have Ji:bf<w.heap.size:=b_ c0;have d0:=(Z.cell (p:=⟨bf,_,none⟩) Ji).trans c0;have d1:=(Z.cell (p:=⟨bf,_,none⟩) Ji).trans c1;have d2:=(Z.cell (p:=⟨bf,_,none⟩) Ji).trans c2;obtain⟨Jt,Yw,Jr⟩:=Vd.out _ (g_ hlt);obtain⟨ap,cp,Yz,-⟩:=id Yx;obtain⟨ab,cb,Zd,-⟩:=id Xe;have Yk:=rD t.funcs k hlt;rw[Yz]at d1;rw[Zd]at d2 Xe;obtain⟨Wf,Xm⟩:=q_ (wr.alloc (.cells #[sV t.funcs[k].name,.slice ap t.funcs[k].params.length cp,.slice ab t.funcs[k].body.length cb] 97));obtain⟨Bf,Xu⟩:=q_ wr.heap.size;have Xi:Bl wr Wf:=by rw[Xm];exact r_.alloc n_ _
      have Zb:aK Wf Bf [sV t.funcs[k].name,.slice ap t.funcs[k].params.length cp,.slice ab t.funcs[k].body.length cb]:=by rw[Xm,Xu];exact aH wr _ _ (by show 3<=1000;omega)
      obtain⟨W3,Jl⟩:=q_ Wf.drew;have Xh:Bl Wf W3:=by rw[Jl];exact r_.drew
      have Je:=Zb.below Xh;have Jv:Bf<W3.heap.size:=b_ (Je 0 _ rfl).1;obtain⟨Vs,-,Jc,-⟩:=hC.row;have Xx:∀B,vB.ownBlock=some B->B<Bf:=λB I=>by have:=(World.ownsRow.lt Jc B I).2;omega
      obtain⟨Jo,Jq,Zf,-⟩:=bj Jc;have Xp:=(hC.below Xi).below Xh;have Jh:Bl w W3:=(Z.trans (Xi.mono Z.size)).trans (Xh.mono (by have:=Z.size;have:=Xi.size;omega));have Yg:=ah (re t.funcs[k].body (.slice ab t.funcs[k].body.length cb) W3 (Xa.out.below Xa.out.size Jh) (Xe.below Jh) Jt Yw Jr);have Vm:∀X,Bl W3 X->True:=λ_ _=>trivial;have Jj:Hid (∀(u:Value) (S':Nat->Prop) (U:World),Bk U S' u t.funcs[k].body->(∀B,S' B->W3.heap.size<=B/\B<U.heap.size)->Bl W3 U->_):=λu S' U g1 g2 g3=>(Xp.below g3).more (by rw[Yk];exact g1) g2 Xp.tc.size (λB I=>Nat.lt_trans (Xx B I) Jv) o_;have Js:=ah Je;have Xk:=ah Xp;have Ya:=ah Xx;have Jn:=ah Xm;have Zq:=ah Xu;have Yd:=ah Jl;rw[Zf]at Jj Xk Ya;generalize t.funcs[k].body.length=nb at d2 Jn Js Yg;generalize t.funcs[k].params.length=np at d1 Jn Js;generalize t.funcs[k].name=fnm at d0 Jn Js;have J:Hid (W3.cell? ⟨P,3,none⟩=some (.slice Jo k Jq)/\W3.cell? ⟨Bf,2,none⟩=some (.slice ab nb cb)):=⟨(Xk.out.box 3 _ rfl).1,(Js.out 2 _ rfl).1⟩;clear hC Z c0 c1 c2 Yx Xe Yn Jt Yw Jr Yz Zd Yk Xm Xu Xi Zb Jl Xh Je Jc Xx Zf Xp Jh Vm;go_upto_region 11 with fail;rw[<-Jn.out,<-Zq.out];refine aM 8 (λX=>X.cell? ⟨P,3,none⟩=some (.slice Jo k Jq)/\X.cell? ⟨Bf,2,none⟩=some (.slice ab nb cb)) k_ ?_;rw[<-Yd.out];refine tk 0 [1,6,8] J.out ?_;refine tk 1 [6,8] J.out ?_;refine tk 2 [3,4,5,6,8] J.out ?_;refine tk 3 [4,5,6,8] J.out ?_;clear J;refine aq (i:=4) k_ rfl (λK hK=>?_);go_simp;refine Yg.out.mono ?_;rintro e U ⟨u,S',rfl,g1,g2,g3⟩;obtain⟨xa,xn,xc,va,vc,w6,hu,r6,⟨y3,f3⟩,t6,Y_⟩:=Jj.out u S' U g1 g2 g3;subst hu;obtain⟨W5,Xl⟩:=q_ (U.alloc (.cells #[.slice xa xn xc] 118));have Yj:Bl U W5:=by rw[Xl];exact r_.alloc n_ _
      have Xf:=Js.out.below g3;have Yh:=Xk.out.below g3;have Zz:Hid (U.cell? ⟨P,3,none⟩=some (.slice Jo k Jq)/\U.cell? ⟨Bf,2,none⟩=some (.slice ab nb cb)):=⟨(Yh.box 3 _ rfl).1,(Xf 2 _ rfl).1⟩;have Zy:Hid (W5.cell? ⟨P,3,none⟩=some (.slice Jo k Jq)/\W5.cell? ⟨Bf,2,none⟩=some (.slice ab nb cb)):=⟨((Yh.below Yj).box 3 _ rfl).1,((Xf.below Yj) 2 _ rfl).1⟩;have Zh:Hid (w6.cell? ⟨P,3,none⟩=some (.slice Jo k Jq)/\w6.cell? ⟨Bf,2,none⟩=some (.slice ab nb cb)):=⟨y3,(Xf.tcs (l_ Jv g3.size) t6 (λe=>absurd (Ya.out Bf e) (Nat.lt_irrefl _)) 2 _ rfl).1⟩;rw[<-Xl]at r6;have Vc:=ah r6;have Vg:=ah Xl;have Zt:=ah Y_;clear g1 g2 g3 r6 t6 Y_ Xl Yj Xf Yh Jj Yg Xk Js Ya;refine hK.out _ _ (λ_=>Zz) ?_;clear hK K;try simp only[Act.put,tA,tB,tC]
      refine aq (i:=5) k_ rfl (λK hK=>?_);go_simp;rw[<-Vg.out];refine hK.out _ _ (λ_=>Zy) ?_;clear hK K;try simp only[Act.put,tA,tB,tC]
      refine aq (i:=6) k_ rfl (λK hK=>?_);refine cJ rfl (.tmp 47) (.tmp 51) 78 rfl (.slice Jo k Jq) (rV U.heap.size 1 1) (.slice va (k+1) vc) w6 rfl rfl Vc.out ?_;refine hK.out _ _ (λ_=>Zh) ?_;clear hK K;try simp only[Act.put,tA,tB,tC]
      have J:=Zh;refine tk 7 [8] J.out ?_;clear J;refine aq (i:=8) k_ rfl (λK hK=>?_);go_simp;refine hK.out _ _ (λh=>absurd rfl h) ?_;clear hK K y3 f3;refine aJ k_ ?_ _;go_wp2;go_roundw
      case rel=>exact⟨k+1,_,_,by go_num,by have:=Xc.out;omega,Zt⟩
      case measure=>have:=Xc.out;simp[RowKit.intOf];omega
     ·obtain rfl:k=t.funcs.length:=by omega
      have HC:=ah hC;clear hC Z;go_wp2;go_ret;exact⟨B0,P,bN,bM,gb,_,vB,S,rfl,Xn,HC⟩
def startC(w W:AT)(t:Tr)(fr:List Int)(vg vf vFr:BY)(P bN bM bB cB:Nat)(S:D6)(gb:List Nat):IC:=⟨w,W,t,fr,vg,vf,vFr,P,bN,bM,bB,cB,S,gb⟩
def AN{t:Tr}{fr i:List Int}{w Wm W:AT}{vg vf vI Je vB:BY}{F:Int}{B0 P bN Y:Nat}{gb:List Nat}{S:D6}(I:pU w t vg vf vI F Je B0 P bN Y t.globals.length gb Wm)(U:AL t vg vf vI F Je P bN Y Wm t.funcs.length vB S W)(hf:bC w vf t.funcs)(Jn:fW w Je fr)(hi:fW w vI i)(Jq:(aU t).1=0)(Jp:fr.length=t.funcs.length)(Jo:∀x∈fr,0<=x/\x<=1000000000)(sm:t.globals.length<=1000/\t.funcs.length<=1000)(Jv:0<t.funcs.length)(hF:0<=F/\F<=100000)(Jr:∀x∈i,et x):
  ∃bB cB,(startC w W t fr vg vf Je P bN Y bB cB S gb).Ok/\IS (startC w W t fr vg vf Je P bN Y bB cB S gb) W none vI nV (gv t i F):=by
 obtain⟨xs,Js,Jc,Jf⟩:=U.row;obtain⟨n1,D1,Ji,Jm⟩:=I.num;obtain⟨D2,Jk,Jl⟩:=I.glb;obtain⟨e1,e2,e3,e4,e5,e6,e7⟩:=I.ne;have Ja:=Jc;rcases Jc.2 with⟨e,hz⟩|⟨bB,cB,Jt,e,h3,h4,h5⟩
 ·omega
 have Ju:=ownsRow.lt Jc bB (by rw[e];rfl);have sW:=U.tc.size;have J:∀b∈gb,Y<b/\b<Wm.heap.size:=I.gr;refine⟨bB,cB,⟨U.tc.below I.bel I.bel.size (λb hb=>by have e:b=P:=hb;show w.heap.size<=b;omega),hf,Jn,Jq,Jp,Jo,I.gbl,sm,⟨n1,D1,bK Ji U.tc (λe=>e4 e),Jm⟩,λf hf'=>?_,⟨_,D2,bK Jk U.tc (λe=>by have Z:Y=P:=e;omega),?_⟩,λB hS=>?_,λB h=>?_,?_⟩,?_⟩
 ·obtain⟨a,Jj,L,g1,g2,g3⟩:=Jf f hf';refine⟨a,Jj,L,?_,g2,?_⟩
  ·rw[e]at Ja;have:=ownsRow.cells Ja (g:=bB) rfl f _ g1
   rwa[em,Nat.zero_add]at this
  ·rw[<-g3];exact(rD t.funcs f hf').symm
 ·have:=Jl
  rw[take_length]at this;exact this
 ·obtain⟨g1,g2,g3⟩:=U.sS B hS;exact⟨g2,λe=>by have Z:B=P:=e;omega,λhm=>Ft (J B hm)⟩
 ·rcases h with h|h|h
  ·have Z:B=bN:=h;exact⟨by show B<W.heap.size;omega,λe=>e4 (Z.symm.trans e),λhm=>Ft (J B hm)⟩
  ·have Z:B=Y:=h;exact⟨by show B<W.heap.size;omega,λe=>by have e2:B=P:=e;omega,λhm=>Ft (J B hm)⟩
  ·have Z:B=bB:=h;exact⟨by show B<W.heap.size;omega,λe=>by have e2:B=P:=e;omega,λhm=>Ft (J B hm)⟩
 ·exact⟨λhm=>Ft (J P hm),I.nd,by show w.heap.size<=P;omega,by show P<W.heap.size;omega,λb hb=>⟨by show w.heap.size<=b;have:=J b hb;omega,by show b<W.heap.size;have:=J b hb;omega⟩⟩
 ·have Jh:((F.toNat:Nat):Int)=F:=Int.toNat_of_nonneg hF.1;have Jg:gb.length=t.globals.length:=I.gbl;refine⟨ak.refl _ _,?_,by show(t.globals.map vD).length=gb.length;simp[Jg],λk hk=>?_,λk hk Jd=>?_,.inl ⟨rfl,rfl⟩,hi,ownsRow_nil _ _ _ _,⟨λws hws x hx=>?_,λx hx=>(by cases hx),Jr⟩,⟨?_,?_⟩,?_⟩
  ·have:=U.box
   rw[e]at this;show aK W P _;simp only[gv,startC,Jh];exact this
  ·have Jd:k<t.globals.length:=by have h1:k<gb.length:=hk;omega
   have e1:((gv t i F).g.getD k [])=vD t.globals[k]:=by simp[gv,List.getD,Jd]
   rw[e1,ui];have hr:=J gb[k] (g_ hk);exact(I.gw k hk Jd).tcs hr.2 U.tc (λe=>by have Z:gb[k]=P:=e;omega)
  ·have e1:(gv t i F).g[k]=vD (t.globals[k]'Jd):=getElem_map ..;show((gv t i F).g[k]).length=dV (t.globals[k]'Jd);rw[e1];exact pd _
  ·have h1:ws∈t.globals.map vD:=hws;obtain⟨g,-,rfl⟩:=mem_map.1 h1;have:=eq_of_mem_replicate hx
   rw[this];exact rS
  ·show F.toNat<=100000;omega
  ·show 0+F.toNat<=100000;omega
  ·show(0:Int)<=0/\(0:Int)+1000000000*(F.toNat:Int)<=100001000000000/\(0:Int)<=0/\(0:Int)<=100001000000000;omega
section
variable{n:Nat}{r:ER}{s':ES}
def Cd(C:IC)(w:AT)(vO:BY):mT C w vO nV []:=⟨none,0,rfl,n_,o_,λh=>absurd h i_⟩
def xo{C:IC}(Y:C.Ok){i:List Int}{F:Int}(Z:0<=F/\F<=100000){W:AT}{I:BY}(h:IS C W none I nV (gv C.t i F)){m:Nat}(J:Ev C.t C.fr n (.c m []) (gv C.t i F) r s')(U:∀hf:m<C.t.funcs.length,C.t.funcs[m].params=[]):
  Calls prog 39 #[pV C.P,V (m:Int),nV] W λx w'=>jm C W none nV r s' x w':=by
 refine(AJ Y n).2.1 m [] _ r s' J (λhf=>by rw[U hf];rfl) (λx hx=>(by cases hx)) ?_ W none I _ _ h (Cd C W _);have:((gv C.t i F).u:Int)=F:=Int.toNat_of_nonneg Z.1;show(0:Int)+1000000000*(((gv C.t i F).u:Int)+1)<=100001000000000;rw[this];omega
theorem AO{t:Tr}{fr:List Int}{k:Tk}{s:ES}(h:Ev t fr n k s r s')(I:∀v,r ≠ .ret v):mh (bW r)=Bi r:=by
 cases r using ER.cs with
 | val v=>rfl
 | on=>rfl
 | ret v=>exact absurd rfl (I v)
 | out c=>rcases h.outc c rfl with e|e <;> (subst e;rfl)
end
end Go.Proofs.YtffnkkpmlplfeaaGreatDoor
