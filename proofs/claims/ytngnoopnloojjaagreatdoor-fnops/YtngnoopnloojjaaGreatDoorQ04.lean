import Derived.Test.YtngnoopnloojjaaGreatDoorRows
import Derived.WalkSpells
import Derived.Test.YtngnoopnloojjaaGreatDoorQ01
namespace Go.Proofs.YtngnoopnloojjaaGreatDoor
open Go.World List
open Go.Proofs.Tryz Go.RowKit
set_option linter.all false
set_option maxRecDepth 100000
set_option maxHeartbeats 0
variable[Inhabited Pick]
abbrev ly(I T u:IN)(v r:BY)(W:AT):Prop:=(Instr.typeAssert (.iface u v) I T true).run prog W=.ok r W
def eZ{I T u:IN}{z v:BY}{W:AT}(e:∀(u:IN) v,(Instr.typeAssert (.iface u v) I T true).run prog W=(if u=T then(pure (Value.tuple #[v,.bool true]):Sem BY)else(do pure (Value.tuple #[<-zeroValue T,.bool false]))).run prog W)(H:((do pure (Value.tuple #[<-zeroValue T,.bool false])):Sem BY).run prog W=.ok (.tuple #[z,.bool false]) W)(h:u≠T):ly I T u v (.tuple #[z,.bool false]) W:=by show _=_;rw[e,if_neg h];exact H
def bD(W:AT)(v:BY):ly 55 100 100 v (.tuple #[v,.bool true]) W:=by show _=_;kernel_rfl
def aY(W:AT)(u:IN)(v:BY)(h:u≠100):ly 55 100 u v (.tuple #[.agg #[V 0],.bool false]) W:=eZ (λ_ _=>by kernel_rfl) k_ h
def yl(W:AT)(v:BY):ly 55 169 169 v (.tuple #[v,.bool true]) W:=by show _=_;kernel_rfl
def fg(W:AT)(u:IN)(v:BY)(h:u≠169):ly 55 169 u v (.tuple #[.agg #[sV ⟨#[]⟩],.bool false]) W:=eZ (λ_ _=>by kernel_rfl) k_ h
def lS(W:AT)(v:BY):ly 55 171 171 v (.tuple #[v,.bool true]) W:=by show _=_;kernel_rfl
def bE(W:AT)(u:IN)(v:BY)(h:u≠171):ly 55 171 u v (.tuple #[.agg #[sV ⟨#[]⟩,.nilIface],.bool false]) W:=eZ (λ_ _=>by kernel_rfl) k_ h
def nN(W:AT)(v:BY):ly 55 173 173 v (.tuple #[v,.bool true]) W:=by show _=_;kernel_rfl
def d8(W:AT)(u:IN)(v:BY)(h:u≠173):ly 55 173 u v (.tuple #[.agg #[sV ⟨#[]⟩,nV],.bool false]) W:=eZ (λ_ _=>by kernel_rfl) k_ h
def cA(W:AT)(v:BY):ly 55 98 98 v (.tuple #[v,.bool true]) W:=by show _=_;kernel_rfl
def bu(W:AT)(u:IN)(v:BY)(h:u≠98):ly 55 98 u v (.tuple #[.agg #[V 0,.nilIface],.bool false]) W:=eZ (λ_ _=>by kernel_rfl) k_ h
def bQ(W:AT)(v:BY):ly 55 104 104 v (.tuple #[v,.bool true]) W:=by show _=_;kernel_rfl
def bj(W:AT)(u:IN)(v:BY)(h:u≠104):ly 55 104 u v (.tuple #[.agg #[V 0,.nilIface,.nilIface],.bool false]) W:=eZ (λ_ _=>by kernel_rfl) k_ h
def cl(W:AT)(v:BY):ly 55 107 107 v (.tuple #[v,.bool true]) W:=by show _=_;kernel_rfl
def bK(W:AT)(u:IN)(v:BY)(h:u≠107):ly 55 107 u v (.tuple #[.agg #[.nilIface,.nilIface],.bool false]) W:=eZ (λ_ _=>by kernel_rfl) k_ h
def cT(W:AT)(v:BY):ly 55 109 109 v (.tuple #[v,.bool true]) W:=by show _=_;kernel_rfl
def cZ(W:AT)(u:IN)(v:BY)(h:u≠109):ly 55 109 u v (.tuple #[.agg #[.nilIface,.nilIface],.bool false]) W:=eZ (λ_ _=>by kernel_rfl) k_ h
def vh(W:AT)(v:BY):ly 289 321 321 v (.tuple #[v,.bool true]) W:=by show _=_;kernel_rfl
def d9(W:AT)(u:IN)(v:BY)(h:u≠321):ly 289 321 u v (.tuple #[.agg #[sV ⟨#[]⟩,.nilIface],.bool false]) W:=eZ (λ_ _=>by kernel_rfl) k_ h
def ym(W:AT)(v:BY):ly 289 322 322 v (.tuple #[v,.bool true]) W:=by show _=_;kernel_rfl
def f_(W:AT)(u:IN)(v:BY)(h:u≠322):ly 289 322 u v (.tuple #[.agg #[sV ⟨#[]⟩,.nilIface],.bool false]) W:=eZ (λ_ _=>by kernel_rfl) k_ h
def tK(W:AT)(v:BY):ly 289 324 324 v (.tuple #[v,.bool true]) W:=by show _=_;kernel_rfl
def fh(W:AT)(u:IN)(v:BY)(h:u≠324):ly 289 324 u v (.tuple #[.agg #[sV ⟨#[]⟩,.nilIface,.nilIface],.bool false]) W:=eZ (λ_ _=>by kernel_rfl) k_ h
def rZ(W:AT)(v:BY):ly 289 317 317 v (.tuple #[v,.bool true]) W:=by show _=_;kernel_rfl
def ib(W:AT)(u:IN)(v:BY)(h:u≠317):ly 289 317 u v (.tuple #[.agg #[.nilIface,nV,nV],.bool false]) W:=eZ (λ_ _=>by kernel_rfl) k_ h
def lT(W:AT)(v:BY):ly 289 319 319 v (.tuple #[v,.bool true]) W:=by show _=_;kernel_rfl
def gw(W:AT)(u:IN)(v:BY)(h:u≠319):ly 289 319 u v (.tuple #[.agg #[.nilIface,nV],.bool false]) W:=eZ (λ_ _=>by kernel_rfl) k_ h
def iU(W:AT)(v:BY):ly 289 292 292 v (.tuple #[v,.bool true]) W:=by show _=_;kernel_rfl
def jz(W:AT)(u:IN)(v:BY)(h:u≠292):ly 289 292 u v (.tuple #[.agg #[.nilIface],.bool false]) W:=eZ (λ_ _=>by kernel_rfl) k_ h
def yn(W:AT)(v:BY):ly 289 325 325 v (.tuple #[v,.bool true]) W:=by show _=_;kernel_rfl
def BD(W:AT)(u:IN)(v:BY)(h:u≠325):ly 289 325 u v (.tuple #[.agg #[.nilIface],.bool false]) W:=eZ (λ_ _=>by kernel_rfl) k_ h
section
variable{g n:Nat}{w w':AT}{its:List It}{A:Nat->Int}{G:Nat->BY}{α:Type}
structure Tg (g:Nat) (w w':AT):Prop where
 still:w'.os=w.os/\w'.tape=w.tape/\w'.output=w.output
 size:w'.heap.size=w.heap.size
 other:∀b,b≠g->w'.heap[b]? =w.heap[b]?
def Tg.refl(g:Nat)(w:AT):Tg g w w:=⟨⟨rfl,rfl,rfl⟩,rfl,λ_ _=>rfl⟩
def Tg.set(h:Tg g w w')(o:Nat)(v:BY):Tg g w (w'.setCell ⟨g,o,none⟩ v):=by have Ja:=(Below.refl 0 w').setCell (p:=⟨g,o,none⟩) y_ v;refine⟨⟨Ja.os.trans h.still.1,Ja.tape.trans h.still.2.1,Ja.output.trans h.still.2.2⟩,D4 h.size,λb hb=>?_⟩;rw[<-h.other b hb];exact Below.heap_setCell _ _ _ b (λh=>hb (D4 h))
def Tg.below{B:Nat}(h:Tg g w w')(hg:B<=g):Below B w w':=
 ⟨h.still.1,h.still.2.1,h.still.2.2,Nat.le_of_eq h.size.symm,λk hk=>h.other k o_⟩
def Tg.cell(h:Tg g w w'){b o:Nat}(hb:b≠g):w'.cell? ⟨b,o,none⟩=w.cell? ⟨b,o,none⟩:=c_ (a:=⟨b,o,none⟩) (h.other b hb)
def pcs(it:It)(a:Int)(v:BY)(l:Bool):List BY:=[V it.kd,V it.ins.op,V it.ins.rd,V it.ins.s1,V it.ins.s2,V it.ins.im,V it.label,V a,v,.bool l]
def cO(w:AT)(g n:Nat)(its:List It)(A:Nat->Int)(G:Nat->BY)(L:Nat->Bool):Prop:=∀i,i<n->∀k,k<10->w.cell? ⟨g,i*10+k,none⟩=(pcs (its.getD i cV) (A i) (G i) (L i))[k]? /\ w.frozen? ⟨g,i*10+k,none⟩=false
def cO.below{L:Nat->Bool}(h:cO w g n its A G L)(H:g<w.heap.size)(I:Bl w w'):cO w' g n its A G L:=by intro i O k U;have⟨J,h2⟩:=h i O k U;exact⟨(I.cell (p:=⟨g,i*10+k,none⟩) H).trans J,(I.frozen (p:=⟨g,i*10+k,none⟩) H).trans h2⟩
def upd{α:Type}(f:Nat->α)(i:Nat)(x:α):Nat->α:=λj=>if j=i then x else f j
def upd_same(f:Nat->α)(i:Nat)(x:α):upd f i x i=x:=if_pos rfl
def gd(f:Nat->α)(i j:Nat)(x:α)(h:j≠i):upd f i x j=f j:=if_neg h
def cO.store{O:Nat->Int}{I:Nat->BY}{L J:Nat->Bool}(h:cO w g n its A G L)(i c:Nat)(hi:i<n)(hc:c<10)(u:BY)
  (ho:∀j,j≠i->O j=A j/\I j=G j/\J j=L j) (hs:∀k,k<10->(pcs (its.getD i cV) (O i) (I i) (J i))[k]? =if k=c then some u else(pcs (its.getD i cV) (A i) (G i) (L i))[k]?):
  cO (w.setCell ⟨g,i*10+c,none⟩ u) g n its O I J:=by
 intro j Z k U;have⟨H,h2⟩:=h j Z k U;refine⟨?_,(frozen?_setCell _ _ _ _).trans h2⟩;by_cases e:j=i;subst e;rw[hs k U];by_cases ek:k=c;subst ek;rw[if_pos rfl];have hl:(pcs (its.getD j cV) (A j) (G j) (L j)).length=10:=rfl;rw[K3 o_]at H;exact cell?_setCell_same _ _ _ H;rw[if_neg ek,s_ _ _ _ _ (by intro h;simp only[Addr.mk.injEq]at h;omega)];exact H
 have⟨X,e2,Y⟩:=ho j e;rw[X,e2,Y,s_ _ _ _ _ (by intro h;simp only[Addr.mk.injEq]at h;omega)];exact H
theorem cO.at{L:Nat->Bool}(h:cO w g n its A G L)(i:Nat)(H:i<n)(x:Int):cO (w.setCell ⟨g,i*10+7,none⟩ (V x)) g n its (upd A i x) G L:=by
 refine h.store i 7 H o_ _ (λj hj=>⟨gd _ _ _ _ hj,rfl,rfl⟩) (λk hk=>?_);rw[upd_same];match k,hk with
 | 0,_|1,_|2,_|3,_|4,_|5,_|6,_|7,_|8,_|9,_=>rfl
theorem cO.goal{L:Nat->Bool}(h:cO w g n its A G L)(i:Nat)(H:i<n)(x:BY):cO (w.setCell ⟨g,i*10+8,none⟩ x) g n its A (upd G i x) L:=by
 refine h.store i 8 H o_ _ (λj hj=>⟨rfl,gd _ _ _ _ hj,rfl⟩) (λk hk=>?_);rw[upd_same];match k,hk with
 | 0,_|1,_|2,_|3,_|4,_|5,_|6,_|7,_|8,_|9,_=>rfl
theorem cO.long{L:Nat->Bool}(h:cO w g n its A G L)(i:Nat)(H:i<n)(x:Bool):cO (w.setCell ⟨g,i*10+9,none⟩ (.bool x)) g n its A G (upd L i x):=by
 refine h.store i 9 H o_ _ (λj hj=>⟨rfl,rfl,gd _ _ _ _ hj⟩) (λk hk=>?_);rw[upd_same];match k,hk with
 | 0,_|1,_|2,_|3,_|4,_|5,_|6,_|7,_|8,_|9,_=>rfl
structure Pc (w:AT) (b o:Nat) (it:It) (a:Int) (v:BY) (l:Bool):Prop where
 c0:w.cell? ⟨b,o,none⟩=some (V it.kd)
 c1:w.cell? ⟨b,o+1,none⟩=some (V it.ins.op)
 c2:w.cell? ⟨b,o+2,none⟩=some (V it.ins.rd)
 c3:w.cell? ⟨b,o+3,none⟩=some (V it.ins.s1)
 c4:w.cell? ⟨b,o+4,none⟩=some (V it.ins.s2)
 c5:w.cell? ⟨b,o+5,none⟩=some (V it.ins.im)
 c6:w.cell? ⟨b,o+6,none⟩=some (V it.label)
 c7:w.cell? ⟨b,o+7,none⟩=some (V a)
 c8:w.cell? ⟨b,o+8,none⟩=some v
 c9:w.cell? ⟨b,o+9,none⟩=some (.bool l)
def cO.pc{L:Nat->Bool}(h:cO w g n its A G L)(i:Nat)(hi:i<n):Pc w g (i*10) (its.getD i cV) (A i) (G i) (L i):=
 ⟨(h i hi 0 o_).1,(h i hi 1 o_).1,(h i hi 2 o_).1,(h i hi 3 o_).1,(h i hi 4 o_).1,(h i hi 5 o_).1,(h i hi 6 o_).1,(h i hi 7 o_).1,(h i hi 8 o_).1,(h i hi 9 o_).1⟩
def cO.free{L:Nat->Bool}(h:cO w g n its A G L)(i:Nat)(hi:i<n)(k:Nat)(hk:k<10):By w g (i*10+k):=(h i hi k hk).2
def BE(b o:Nat)(I:It)(a:Int)(v:BY)(l:Bool)(w:AT)(h:Pc w b o I a v l):
  Calls prog 171 #[.pointer (some ⟨b,o,none⟩)] w λe w'=>e=rW (V ((oX I l:Nat):Int))/\w'=w:=by
 have c0:=h.c0;have c9:=h.c9;obtain⟨H,Ja,Jb⟩:=I;simp only at c0;by_cases hk:H=2
 ·subst hk;rw[show oX ⟨2,Ja,Jb⟩ l=0 from rfl];go_in;go_wp2;go_ret;exact⟨rfl,rfl⟩
 cases l
 ·rw[show oX ⟨H,Ja,Jb⟩ false=1 by simp[oX,hk]];go_in;go_wp2;go_ret;exact⟨rfl,rfl⟩
 rw[show oX ⟨H,Ja,Jb⟩ true=2 by simp[oX,hk]];go_in;go_wp2;go_ret;exact⟨rfl,rfl⟩
def j3(b o I J:Nat)(O Ja:It)(a H:Int)(v2:BY)(l U:Bool)(w:AT)(h:Pc w b o O a (.pointer (some ⟨I,J,none⟩)) l)(h2:Pc w I J Ja H v2 U)(Y:0<=a/\a<=1000000000)(Jb:0<=H/\H<=1000000000):
  Calls prog 137 #[.pointer (some ⟨b,o,none⟩)] w λe w'=>e=rW (V (H-a))/\Bl w w':=by
 have c8:=h.c8;have c7:=h.c7;have X:=h2.c7;go_in;go_wp2_with fail;go_region;go_wp2;go_ret;exact⟨rfl,r_.drew⟩
def Hl(b o X Y:Nat)(Z Jb:It)(a I:Int)(v2:BY)(l l2:Bool)(w:AT)(h:Pc w b o Z a (.pointer (some ⟨X,Y,none⟩)) l)(h2:Pc w X Y Jb I v2 l2)(ha:0<=a/\a<=1000000000)(Jc:0<=I/\I<=1000000000):
  Calls prog 172 #[.pointer (some ⟨b,o,none⟩)] w λe w'=>e=rW (.bool (!reach (I-a)))/\Bl w w':=by
 have H:=ah h;have H2:=ah h2;clear h h2;go_in;go_wp2_with fail;refine(j3 b o X Y Z Jb a I v2 l l2 w H.o H2.o ha Jc).mono ?_;rintro e w1 ⟨rfl,Ja⟩;have⟨d,O⟩:=q_ (I-a);have U:=ah O;rw[<-O];clear O;by_cases h1:d < -4096
 ·have J:Hid (reach d=false):=decide_eq_false o_;go_wp2;go_ret;exact⟨by rw[<-U.o,J.o];rfl,Ja⟩
 by_cases h3:4094<d
 ·have J:Hid (reach d=false):=decide_eq_false o_;go_wp2;go_ret;exact⟨by rw[<-U.o,J.o];rfl,Ja⟩
 have J:Hid (reach d=true):=decide_eq_true o_;have e1:decide (d < -4096)=false:=decide_eq_false h1;have e2:decide (4094<d)=false:=decide_eq_false h3;go_wp2;go_ret;refine⟨?_,Ja⟩;rw[<-U.o,J.o];rfl
end
def eE(L:Nat->Bool)(n:Nat):List Bool:=(List.range n).map L
def py(L:Nat->Bool)(n i:Nat)(h:i<n):(eE L n).getD i false=L i:=by simp[eE,List.getD,h]
def tL(L:Nat->Bool)(n:Nat):(eE L n).length=n:=by simp[eE]
structure Hm (w:AT) (B g n:Nat) (pa:Option Addr) (cap:Nat) (vb:BY) (its:List It) (A:Nat->Int) (G:Nat->BY) (L:Nat->Bool):Prop where
 len:its.length=n
 box:w.cell? ⟨B,0,none⟩=some (.slice pa n cap)
 row:0<n->pa=some ⟨g,0,none⟩
 pcs:cO w g n its A G L
 brs:w.cell? ⟨B,1,none⟩=some vb
theorem r9(B g n:Nat)(pa:Option Addr)(cap:Nat)(vb:Value)(its:List It)(A:Nat->Int)(G:Nat->Value)(L:Nat->Bool)(w:World)(X:B≠g)(hn:n<=20000)(hc:n<=cap)(h:Hm w B g n pa cap vb its A G L):
  Calls prog 132 #[pV B] w λe w'=>e=rW (V ((jS its (eE L n) n:Nat):Int))/\Tg g w w'/\Hm w' B g n pa cap vb its (λi=>if i<n then 4*((jS its (eE L n) i:Nat):Int)else A i) G L:=by
 have H:=ah h;have I:=h.box;go_in;go_wp2_with fail;clear I;go_loopw[3,10] (λq i wr=>∃k:Nat,k<=n/\i=V k/\q=V ((jS its (eE L n) k:Nat):Int)/\Tg g w wr/\cO wr g n its (λi=>if i<k then 4*((jS its (eE L n) i:Nat):Int)else A i) G L) (λ_ i _=>n-(RowKit.intOf i).toNat)
 case atStart=>exact⟨0,y_,rfl,rfl,Tg.refl _ _,by simpa using H.out.pcs⟩
 case round=>
  obtain⟨k,hk,rfl,rfl,O,hP⟩:=hrel;have⟨J,HT⟩:=h2 hP O;have I:=(O.cell (o:=0) X).trans H.out.box;have b1:=(O.cell (o:=1) X).trans H.out.brs;have Jd:=lj its (eE L n) k;by_cases hlt:k<n
  ·have Jg:=H.out.row o_;subst Jg;obtain⟨z,U⟩:∃z:Nat,z=jS its (eE L n) k:=⟨_,rfl⟩;have Z:=ah U;have Jj:z<=40000:=o_
   rw[<-U];clear Jd U;have Ja:=J.out.at k hlt (4*(z:Int));have Jf:=Ja.pc k hlt;have f7:=J.out.free k hlt 7 o_;have c7:=(J.out.pc k hlt).c7;have⟨Jb,Jc⟩:=h2 Ja Jf;have Je:(⟨B,0,none⟩:Addr)≠⟨g,k*10+7,none⟩:=(by intro h;simp only[Addr.mk.injEq]at h;exact X h.1);have Ji:(wr.setCell ⟨g,k*10+7,none⟩ (V (4*(z:Int)))).cell? ⟨B,0,none⟩=some (rV g n cap):=by rw[s_ _ _ _ _ (λh=>Je h.symm)];exact I
   have em:((z:Int)*4)=4*(z:Int):=o_;go_wp2_with fail;refine(BE g (k*10) _ _ _ _ _ Jc).mono ?_;rintro e w2 ⟨rfl,rfl⟩;have Y:Hid (jS its (eE L n) (k+1)=z+oX (its.getD k cV) (L k)):=(by show _=_;rw[Z.out,<-py L n k hlt];rfl);have hy:oX (its.getD k cV) (L k)<=2:=by unfold oX;split;omega;split <;> omega
   have Jh:Hid (cO (wr.setCell ⟨g,k*10+7,none⟩ (V (4*(z:Int)))) g n its (λi=>if i<k+1 then 4*((jS its (eE L n) i:Nat):Int)else A i) G L):=by
    have e:upd (λi=>if i<k then 4*((jS its (eE L n) i:Nat):Int)else A i) k (4*(z:Int))=λi=>if i<k+1 then 4*((jS its (eE L n) i:Nat):Int)else A i:=by
     funext i
     by_cases ei:i=k;subst ei;rw[upd_same,if_pos o_,Z.out];rw[gd _ _ _ _ ei];by_cases h1:i<k;rw[if_pos h1,if_pos o_];rw[if_neg h1,if_neg o_]
    have:=Jb.out
    rw[e]at this;exact this
   generalize oX (its.getD k cV) (L k)=y at Y hy⊢;clear Jc Jb Ji c7 f7;go_wp2;go_roundw
   case rel=>exact⟨k+1,o_,by go_num,by rw[Y.out];go_num,HT.out.set _ _,Jh⟩
   case measure=>simp[RowKit.intOf];omega
  obtain rfl:k=n:=(by omega);go_wp2;go_ret;exact⟨rfl,HT,H.out.len,I,H.out.row,J,b1⟩
section
variable{g i:Nat}{w w' w2:AT}{its:List It}{lg:List Bool}
structure Tn (g:Nat) (w w':AT):Prop where
 still:w'.os=w.os/\w'.tape=w.tape/\w'.output=w.output
 size:w.heap.size<=w'.heap.size
 other:∀b,b<w.heap.size->b≠g->w'.heap[b]? =w.heap[b]?
def Tn.refl(g:Nat)(w:AT):Tn g w w:=⟨⟨rfl,rfl,rfl⟩,n_,λ_ _ _=>rfl⟩
def Tn.of(h:Tg g w w'):Tn g w w':=⟨h.still,Nat.le_of_eq h.size.symm,λb _ hb=>h.other b hb⟩
def Tn.trans{w1:AT}(h:Tn g w w1)(k:Tn g w1 w2):Tn g w w2:=⟨⟨k.still.1.trans h.still.1,k.still.2.1.trans h.still.2.1,k.still.2.2.trans h.still.2.2⟩,t_ h.size k.size,λb hl hb=>(k.other b (l_ hl h.size) hb).trans (h.other b hl hb)⟩
def Tn.set(h:Tn g w w')(o:Nat)(v:BY):Tn g w (w'.setCell ⟨g,o,none⟩ v):=by have Ja:=(Below.refl 0 w').setCell (p:=⟨g,o,none⟩) y_ v;refine⟨⟨Ja.os.trans h.still.1,Ja.tape.trans h.still.2.1,Ja.output.trans h.still.2.2⟩,D4 h.size,λb hl hb=>?_⟩;rw[<-h.other b hl hb];exact Below.heap_setCell _ _ _ b (λh=>hb (D4 h))
def Tn.step(h:Tn g w w')(hb:Bl w' w2):Tn g w w2:=
 ⟨⟨hb.os.trans h.still.1,hb.tape.trans h.still.2.1,hb.output.trans h.still.2.2⟩,t_ h.size hb.size,λb hl hn=>(hb.block b (l_ hl h.size)).trans (h.other b hl hn)⟩
def Tn.below{B:Nat}(h:Tn g w w')(hg:B<=g)(hs:B<=w.heap.size):Below B w w':=
 ⟨h.still.1,h.still.2.1,h.still.2.2,h.size,λk hk=>h.other k o_ o_⟩
def Tn.cell(h:Tn g w w'){b o:Nat}(hl:b<w.heap.size)(hb:b≠g):w'.cell? ⟨b,o,none⟩=w.cell? ⟨b,o,none⟩:=c_ (a:=⟨b,o,none⟩) (h.other b hl hb)
def yo(w:AT)(g:Nat)(vb:BY)(bs:List Nat):Prop:=∃ab cb,vb=.slice ab bs.length cb/\bs.length<=cb/\(0<bs.length->∃gb,ab=some ⟨gb,0,none⟩/\gb≠g/\gb<w.heap.size/\∀j (h:j<bs.length),w.cell? ⟨gb,j,none⟩=some (.pointer (some ⟨g,bs[j]*10,none⟩)))
def yo.tn{H:BY}{bs:List Nat}(h:yo w g H bs)(I:Tn g w w'):yo w' g H bs:=by obtain⟨X,J,rfl,O,h2⟩:=h;refine⟨X,J,rfl,O,λh0=>?_⟩;obtain⟨U,rfl,h3,h4,h5⟩:=h2 h0;exact⟨U,rfl,h3,l_ h4 I.size,λj hj=>(I.cell h4 h3).trans (h5 j hj)⟩
def sd{a b:Bool}(h:a=b):Ending.returned (.bool a)=rW (.bool b):=by rw[h]
def BF(H:(its.getD i cV).kd=3)(h:lg.getD i false=false):grows its lg i= !reach (tu its lg i):=by unfold grows;rw[H,h];rfl
def yp(h:lg.getD i false=true):grows its lg i=false:=by unfold grows;rw[h];simp
def Ki(its:List It)(g:Nat)(G:Nat->BY):Prop:=∀i,i<its.length->(its.getD i cV).kd≠1->(its.getD i cV).kd≠2->G i=.pointer (some ⟨g,mD its i*10,none⟩)
def aX(its:List It)(lg:List Bool)(L:Nat->Bool)(bs:List Nat):Nat->Bool:=λi=>L i || (decide (i∈bs)&&grows its lg i)
def tM(B g n:Nat)(pa:Option Addr)(cap:Nat)(Y:BY)(its:List It)(A:Nat->Int)(G:Nat->BY)(L:Nat->Bool)(bs:List Nat)(w:AT)(hB:B≠g)(Xm:B<w.heap.size)(Xf:0<n->g<w.heap.size)(hn:n<=20000)(h:Hm w B g n pa cap Y its A G L)
  (hA:∀i,i<n->A i=4*((jS its (eE L n) i:Nat):Int)) (hG:Ki its g G) (Jn:yo w g Y bs) (Xd:∀i∈bs,i<n/\(its.getD i cV).kd=3) (Xl:bs.length<=n) (Xe:Linked its):
  Calls prog 133 #[pV B] w λe w'=>e=rW (.bool (bs.any (grows its (eE L n))))/\Tn g w w'/\cO w' g n its A G (aX its (eE L n) L bs):=by
 have⟨H,X,HG,Xj,Jp,Xc⟩:=h6 h hA hG Jn Xd Xe;have Jf:=h.len;obtain⟨ab,cb,rfl,Xh,Jq⟩:=Jn;have Jx:=ah Jq;have b1:=h.brs;go_in;go_wp2;go_loopw[3,11] (λc i wr=>∃j:Nat,j<=bs.length/\i=V j/\c=.bool ((bs.take j).any (grows its (eE L n)))/\Tn g w wr/\cO wr g n its A G (aX its (eE L n) L (bs.take j))) (λ_ i _=>bs.length-(RowKit.intOf i).toNat)
 case atStart=>exact⟨0,y_,rfl,rfl,Tn.refl _ _,by have e:aX its (eE L n) L (bs.take 0)=L:=(by funext i;simp[aX]);rw[e];exact H.o.pcs⟩
 case round=>
  obtain⟨j,hj,rfl,rfl,hT,hP⟩:=hrel;have⟨J,U⟩:=h2 hP hT;by_cases hlt:j<bs.length
  ·obtain⟨gb,rfl,Jw,Xa,Jt⟩:=Jx.o o_;have p0:=(U.o.cell Xa Jw).trans (Jt j hlt);have⟨I,Ji⟩:=Jp.o bs[j] (g_ hlt);have Ja:Hid (bs.take (j+1)=bs.take j++[bs[j]]):=by show _=_;rw[take_add_one,K3 hlt];rfl
   generalize bs[j]=i at p0 I Ji Ja;have Js:g<wr.heap.size:=l_ (Xf o_) U.o.size;have Jg:=ah (J.o.pc i I);have c9:=Jg.o.c9;have f9:=J.o.free i I 9 o_;generalize hprev:bs.take j=pv at J Jg Ja c9⊢;cases hl:aX its (eE L n) L pv i
   ·rw[hl]at c9;have Z:L i=false:=by simp only[aX,Bool.or_eq_false_iff]at hl;exact hl.1
    have Jc:mD its i<n:=(by rw[<-Jf];exact DC Xc.o o_);have Jy:G i=.pointer (some ⟨g,mD its i*10,none⟩):=HG.o i o_ o_ o_;have Xb:=ah (J.o.pc _ Jc);have Jz:Hid (Pc wr g (i*10) (its.getD i cV) (A i) (.pointer (some ⟨g,mD its i*10,none⟩)) (aX its (eE L n) L pv i)):=(by have:=Jg.o;rw[Jy]at this;exact this);have Xi:=lj its (eE L n) i;have Xk:=lj its (eE L n) (mD its i);have Jo:=X.o i I;have Ju:=X.o _ Jc;have Jh:Hid (A (mD its i)-A i=tu its (eE L n) i):=(by show _=_;rw[Jo,Ju];rfl);have Jj:Hid (grows its (eE L n) i= !reach (A (mD its i)-A i)):=by show _=_;rw[Jh.o];exact BF Ji (by rw[py L n i I];exact Z)
    have J_:0<=A i/\A i<=1000000000:=o_;have Jv:0<=A (mD its i)/\A (mD its i)<=1000000000:=o_;go_wp2_with fail;refine(Hl g (i*10) g (mD its i*10) _ _ _ _ _ _ _ _ Jz.o Xb.o J_ Jv).mono ?_;rintro e w2 ⟨rfl,Jm⟩;have Jl:Hid (Tn g w w2):=U.o.step Jm;have Jb:Hid (cO w2 g n its A G (aX its (eE L n) L pv)):=J.o.below Js Jm;have Jr:=(Jb.o.pc i I).c9;have Xg:=Jb.o.free i I 9 o_;rw[hl]at Jr;cases hr:reach (A (mD its i)-A i)
    ·have Jd:Hid (grows its (eE L n) i=true):=(by show _=_;rw[Jj.o,hr];rfl);have Je:Hid (cO (w2.setCell ⟨g,i*10+9,none⟩ (.bool true)) g n its A G (aX its (eE L n) L (bs.take (j+1)))):=by
      have e:upd (aX its (eE L n) L pv) i true=aX its (eE L n) L (bs.take (j+1)):=by rw[Ja.o];funext x;by_cases hx:x=i;subst hx;rw[upd_same];simp[aX,Jd.o];rw[gd _ _ _ _ hx];simp[aX,hx]
      rw[<-e];exact Jb.o.long i I true
     have O:Hid ((bs.take (j+1)).any (grows its (eE L n))=true):=by show _=_;rw[Ja.o,any_append];simp[Jd.o]
     go_wp2;go_roundw
     case rel=>exact⟨j+1,o_,by go_num,by rw[O.o],Jl.o.set _ _,Je⟩
     case measure=>exact D1
    have Jd:Hid (grows its (eE L n) i=false):=(by show _=_;rw[Jj.o,hr];rfl);have Je:Hid (cO w2 g n its A G (aX its (eE L n) L (bs.take (j+1)))):=by
     have e:aX its (eE L n) L pv=aX its (eE L n) L (bs.take (j+1)):=by rw[Ja.o];funext x;by_cases hx:x=i;subst hx;simp[aX,Jd.o];simp[aX,hx]
     rw[<-e];exact Jb
    have O:Hid ((bs.take (j+1)).any (grows its (eE L n))=pv.any (grows its (eE L n))):=by show _=_;rw[Ja.o,any_append];simp[Jd.o]
    go_wp2;go_roundw
    case rel=>exact⟨j+1,o_,by go_num,by rw[O.o],Jl,Je⟩
    case measure=>exact D1
   rw[hl]at c9;have Jk:Hid (aX its (eE L n) L (bs.take (j+1))=aX its (eE L n) L pv/\(bs.take (j+1)).any (grows its (eE L n))=pv.any (grows its (eE L n))):=by
    rw[Ja.o];constructor
    funext x
    by_cases hx:x=i;subst hx;rw[hl];simp only[aX,Bool.or_eq_true,Io,K0]at hl⊢;rcases hl with hl|hl;exact .inl hl;exact .inr ⟨by simp[hl.1],hl.2⟩;simp[aX,hx];rw[any_append];simp only[any_cons,any_nil,Bool.or_false];simp only[aX,Bool.or_eq_true,Io,K0]at hl;rcases hl with hl|hl
    have:grows its (eE L n) i=false:=yp (by rw[py L n i I];exact hl)
    rw[this];simp
    have:pv.any (grows its (eE L n))=true:=any_eq_true.2 ⟨i,hl.1,hl.2⟩
    rw[this];rfl
   go_wp2;go_roundw
   case rel=>exact⟨j+1,o_,by go_num,by rw[Jk.o.2],U,by rw[Jk.o.1];exact J⟩
   case measure=>exact D1
  obtain rfl:j=bs.length:=(by omega);have Jb:Hid (cO wr g n its A G (aX its (eE L n) L bs)):=(by have:=J.o;rw[take_length]at this;exact this);have O:Hid ((bs.take bs.length).any (grows its (eE L n))=bs.any (grows its (eE L n))):=(by show _=_;rw[take_length]);generalize (bs.take bs.length).any (grows its (eE L n))=cc at O⊢;go_wp2;go_ret;exact⟨sd O,U,Jb⟩
end
section
variable{its:List It}{l l' lg:List Bool}{i n:Nat}
theorem Ec(h:∀i,l.getD i false=true->l'.getD i false=true)(n:Nat):jS its l n<=jS its l' n:=by
 induction n with
 | zero=>exact n_
 | succ n ih=>
  simp only[jS];have:oX (its.getD n cV) (l.getD n false)<=oX (its.getD n cV) (l'.getD n false):=by
   have H:=h n;cases e:l.getD n false <;> cases e':l'.getD n false
   exact n_;unfold oX;split <;> simp
   rw[H e]at e';cases e';exact n_
  omega
theorem Kj(h:∀i,l.getD i false=true->l'.getD i false=true)(X:i<n)(H:(its.getD i cV).kd≠2)(J:l.getD i false=false)(h2:l'.getD i false=true):jS its l n<jS its l' n:=by
 induction n with
 | zero=>omega
 | succ n ih=>
  simp only[jS];by_cases e:i=n;subst e;have:=Ec (its:=its) h i;rw[J,h2];have U:oX (its.getD i cV) false=1:=(by unfold oX;rw[if_neg H];rfl);have O:oX (its.getD i cV) true=2:=(by unfold oX;rw[if_neg H];rfl);omega
  have:=ih o_
  have:oX (its.getD n cV) (l.getD n false)<=oX (its.getD n cV) (l'.getD n false):=by
   have I:=h n;cases e:l.getD n false <;> cases e':l'.getD n false
   exact n_;unfold oX;split <;> simp
   rw[I e]at e';cases e';exact n_
  omega
def brs(its:List It):List Nat:=(List.range its.length).filter (λi=>decide ((its.getD i cV).kd=3))
def Aw(h:i∈brs its):i<its.length/\(its.getD i cV).kd=3:=by simpa only[brs,mem_filter,mem_range,K0]using h
def Hn(h:i<its.length)(H:(its.getD i cV).kd=3):i∈brs its:=by simp only[brs,mem_filter,mem_range,K0];exact⟨h,H⟩
def Ho(its:List It):(brs its).length<=its.length:=by
 have:=length_filter_le (λi=>decide ((its.getD i cV).kd=3)) (List.range its.length)
 simpa[brs]using this
def sh(H:i<its.length)(h:grows its lg i=true):i∈brs its:=by refine Hn H ?_;unfold grows at h;simp only[Io,K0]at h;exact h.1.1
def tN{L:Nat->Bool}(O:its.length=n):eE (aX its (eE L n) L (brs its)) n=turn its (eE L n):=by
 apply ext_getElem;simp[tL,turn_len];intro i H h2;have h:i<n:=by simpa[tL]using H
 have I:(eE (aX its (eE L n) L (brs its)) n)[i]=aX its (eE L n) L (brs its) i:=by simp[eE]
 have J:(turn its (eE L n))[i]=((eE L n).getD i false || grows its (eE L n) i):=by
  have:=oF its (eE L n) i (by rw[tL];exact h)
  rw[<-this];simp[List.getD,h2]
 rw[I,J,py L n i h];unfold aX;cases hg:grows its (eE L n) i
 simp
 rw[decide_eq_true (sh o_ hg)];simp
def BG(U:lg.length=its.length)(h:(brs its).any (grows its lg)=false):turn its lg=lg:=by
 have J:∀i,i<its.length->grows its lg i=false:=by
  intro i O;cases hg:grows its lg i;rfl
  have:=any_eq_true.2 ⟨i,sh O hg,hg⟩
  rw[this]at h;cases h
 apply ext_getElem;exact turn_len _ _;intro i H h2;have I:(turn its lg)[i]=(lg.getD i false || grows its lg i):=by rw[<-oF its lg i h2];simp[List.getD,H]
 rw[I,J i o_];simp[List.getD,h2]
def BH(O:lg.length=its.length)(h:(brs its).any (grows its lg)=true):jS its lg its.length<jS its (turn its lg) its.length:=by
 have⟨i,J,H⟩:=any_eq_true.1 h;have⟨I,h2⟩:=Aw J;refine Kj (λj hj=>?_) (i:=i) I o_ ?_ ?_
 have Ja:j<lg.length:=by by_cases hh:j<lg.length;exact hh;simp[List.getD,getElem?_eq_none (by omega:lg.length<=j)]at hj
 rw[oF its lg j Ja,hj];rfl;unfold grows at H;simp only[Io,Bool.not_eq_true']at H;exact H.1.2;rw[oF its lg i o_,H];simp
def yq(B g n:Nat)(J:Option Addr)(cap:Nat)(I:BY)(its:List It)(A:Nat->Int)(G:Nat->BY)(L:Nat->Bool)(w:AT)(U:B≠g)(Xb:B<w.heap.size)(Xd:0<n->g<w.heap.size)(Y:n<=20000)(hc:n<=cap)(h:Hm w B g n J cap I its A G L)
  (hL:eE L n=turns its 0) (hG:Ki its g G) (Xa:yo w g I (brs its)) (Xc:Linked its):
  Calls prog 82 #[pV B] w λe w'=>∃lg A' L',Fin its lg/\eE L' n=lg/\e=rW (V ((jS its lg n:Nat):Int))/\Tn g w w'/\Hm w' B g n J cap I its A' G L'/\∀i,i<n->A' i=4*((jS its lg i:Nat):Int):=by
 have⟨H,HG,Jq,J_⟩:=h4 h hG Xa Xc;have Ja:=h.len;have HL:=ah hL;go_in;go_wp2_with fail;refine(r9 B g n J cap I its A G L w U Y hc H).mono ?_;rintro e w1 ⟨rfl,Jr,Ji⟩;rw[HL.o]at Ji⊢;have Js:=ah Ji;have Jw:Hid (Tn g w w1):=Tn.of Jr;go_wp2;go_loopw[3] (λq wr=>∃(m:Nat) (A':Nat->Int) (L':Nat->Bool),q=V ((jS its (turns its m) n:Nat):Int)/\eE L' n=turns its m/\Tn g w wr/\Hm wr B g n J cap I its A' G L'/\∀i,i<n->A' i=4*((jS its (turns its m) i:Nat):Int)) (λq _=>2*n-(RowKit.intOf q).toNat)
 case atStart=>exact⟨0,_,L,rfl,HL,Jw,Js,λi hi=>if_pos hi⟩
 case round=>
  obtain⟨m,A',L',rfl,Jy,X,hA,Jv⟩:=hrel;have⟨O,HT,Jf,Jh⟩:=h4 hA X Jy Jv;have Je:B<wr.heap.size:=l_ Xb X.size;have Jp:0<n->g<wr.heap.size:=λh=>l_ (Xd h) X.size;have Jn:(brs its).length<=n:=by rw[<-Ja];exact Ho its
  go_wp2_with fail;refine(tM B g n J cap I its A' G L' (brs its) wr U Je Jp Y O.o (by rw[Jf.o];exact Jh) HG.o (Jq.o.tn HT) (λi hi=>by have:=Aw hi;rw[Ja]at this;exact this) Jn J_).mono ?_;rintro e w2 ⟨rfl,Jc,Jt⟩;have Jm:Hid (Tn g w w2):=HT.o.trans Jc;have b0:=(Jc.cell (o:=0) Je U).trans O.o.box;have b1:=(Jc.cell (o:=1) Je U).trans O.o.brs;have Jl:Hid (Hm w2 B g n J cap I its A' G (aX its (eE L' n) L' (brs its))):=⟨O.o.len,b0,O.o.row,Jt,b1⟩;have Jd:Hid (eE (aX its (eE L' n) L' (brs its)) n=turns its (m+1)):=by show _=_;rw[tN Ja,Jf.o];rfl
  rw[Jf.o];have Jj:=Bc its m;cases hany:(brs its).any (grows its (turns its m))
  ·have Z:Hid (Fin its (turns its m)):=⟨⟨m,rfl⟩,BG Jj hany⟩;have Ju:Hid (turns its (m+1)=turns its m):=Z.o.2;go_wp2;go_ret;exact⟨turns its m,A',_,Z,by rw[<-Ju.o];exact Jd,rfl,Jm,Jl,Jh⟩
  have Jb:=BH Jj hany;rw[Ja]at Jb;have Jg:jS its (turns its m) n<jS its (turns its (m+1)) n:=Jb;have Xe:=lj its (turns its (m+1)) n;go_wp2_with fail;refine(r9 B g n J cap I its A' G _ w2 U Y hc Jl).mono ?_;rintro e w3 ⟨rfl,Jx,Jk⟩;rw[Jd.o]at Jk⊢;have Jo:=ah Jk;have Jz:Hid (Tn g w w3):=Jm.o.trans (Tn.of Jx);go_wp2;go_roundw
  case rel=>exact⟨m+1,_,_,rfl,Jd,Jz,Jo,λi hi=>if_pos hi⟩
  case measure=>exact D1
end
end Go.Proofs.YtngnoopnloojjaaGreatDoor
