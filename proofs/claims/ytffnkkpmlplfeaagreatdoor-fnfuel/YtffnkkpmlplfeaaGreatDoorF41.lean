import Derived.Test.YtffnkkpmlplfeaaGreatDoorF39
import Derived.Shelf.SlMaps.Clone
namespace Go.Proofs.YtffnkkpmlplfeaaGreatDoor
open Go.Value Go.World List
open Go.Proofs.Tryz Go.RowKit
set_option linter.all false
set_option maxRecDepth 100000
set_option maxHeartbeats 0
variable[Inhabited Pick]
section
variable{E:ld}{w:AT}{v:BY}{bt:Nat}{tk:List GA}{fn st:Int}
def wG(b:Nat)(I:Array MapEntry)(h:Nat)(w:AT)(J:w.heap[b]? =some (.map I h)):
  Calls prog 139 #[.map (some b)] w λe w'=>e=rW (.map (some w.heap.size))/\w'=w.alloc (.map I h):=by
 have hq:=λw=>run_eql_map_nil_sl (P:=prog) w 77 _ _ (some b) underlying77;have Y:= @run_callFunc_extern prog 172 _ Extern.MapsClone.clone func172 k_ k_ k_ k_;have U:=run_maps_clone_sl (P:=prog) w 77 J;have Z:=λ(w:AT) (v:BY)=>run_typeAssert_map_sl (P:=prog) w 77 20 _ _ v underlying77;go_in;go_wp2;go_ret;exact⟨rfl,rfl⟩
def sN{gs:List Gl}(I:∀g∈gs,0<=g.size)(s:GA):(cV gs s).isSome=decide (0<=globI gs s):=by
 rcases tX (s:=s) I with⟨h,h2⟩|⟨z,h,h2,h3⟩
 ·rw[h,h2];rfl
 ·rw[h,h2];simp[h3]
def Cs.fresh{g':GA->Bool}{U:Array MapEntry}{J:Nat}(h:Cs {E with gp:=g'} w [] [] v bt tk fn st)(Jj:w.heap[E.bg]? =some (.map U J))(Jp:E.ng<=1000)(Jk:E.gf=cV E.t.globals)(Jl:E.gp=λs=>decide (0<=globI E.t.globals s))(hp:∀g∈E.t.globals,0<=g.size):
  Cs E ((w.alloc (.map U J)).setCell ⟨E.C,4,none⟩ (.map (some w.heap.size))) [] [] v w.heap.size [] fn st:=by
 have I:=h.below ((Below.refl w.heap.size w).alloc n_ (.map U J));obtain⟨ng,Dg,g0,g1,g2⟩:=h.glob;have Jm:ng<=E.ng:=g0;obtain⟨Jg,Jb,e1,F,hs,hD⟩:=g1;have e2:some (Obj.map U J)=some (.map Jg Jb):=Jj.symm.trans e1;simp only[GD,Obj.map.injEq]at e2;obtain⟨rfl,rfl⟩:=e2;have hC:=h.ltC;have hm:∀b,E.C<b->((w.alloc (.map U J)).setCell ⟨E.C,4,none⟩ (.map (some w.heap.size))).heap[b]? =(w.alloc (.map U J)).heap[b]? := λb Y=>Below.heap_setCell _ _ _ b (λe=>by simp at e;omega);have Jd:((w.alloc (.map U J)).setCell ⟨E.C,4,none⟩ (.map (some w.heap.size))).ownsMap prog 9 (plainElem (H:=Unit) prog 2) w.heap.size ng Dg:=⟨U,J,(hm _ hC).trans (show(w.heap.push _)[w.heap.size]? =_ by simp),F,hs,hD⟩;have Jf:=I.nd;have Z:=I.gt;have Je:=h.lt;simp only[nodup_cons,mem_cons,not_or,not_mem_nil,not_false_eq_true,and_true]at Jf;obtain⟨Jh,Ji,k0,k1,k2⟩:=I.glob;refine⟨I.box.s4 _,I.low,I.base.setCell (p:=⟨E.C,4,none⟩) I.low _,I.fun0,I.row.other (Nat.lt_succ_self _),rfl,I.small,⟨Jh,Ji,k0,aL k1 (hm _ (Z _ i_)),k2⟩,λj hj=>absurd hj i_,aL I.own (hm _ (Z _ i_)),I.num,⟨ng,Dg,_,by simp only[l_n];omega,Jd,g2,λs=>?_⟩,?_,?_,?_⟩
 ·rw[Jl];show(E.gf s).isSome=_;rw[Jk,sN hp];simp[du]
 ·have l1:=Je E.bg i_;have l2:=Je E.bn i_;simp only[nodup_cons,mem_cons,not_or,not_mem_nil,not_false_eq_true,and_true];have Jn:E.bg<w.heap.size:=l1;have Jo:E.bn<w.heap.size:=l2;refine⟨⟨Jf.1.1,o_⟩,o_,?_⟩;simp
 ·intro b Y;simp only[mem_cons,not_mem_nil,or_false]at Y;rcases Y with rfl|rfl|rfl
  ·exact Z _ i_
  ·exact Z _ i_
  ·exact hC
 ·intro x hx Y;simp only[mem_cons,not_mem_nil,or_false]at Y;have l:=(h.rlt x hx).2;rcases Y with rfl|rfl|rfl
  ·exact h.rown _ hx i_
  ·exact h.rown _ hx i_
  ·omega
def sO{g0:GA->Bool}(h:Cs {E with gp:=g0} w [] [] v bt tk fn st)(Xn:E.ng<=1000)(Xf:E.gf=cV E.t.globals)(Xg:E.gp=λs=>decide (0<=globI E.t.globals s))(hp:∀g∈E.t.globals,0<=g.size)(Xu:E.t.funcs.length<=1000)(Xe:∀f∈E.t.funcs,A5 f):
  Calls prog 107 #[pV E.C] w λe w'=>e=rW (eM (bodiesE E.t 0 E.t.funcs).1 (bodiesE E.t 0 E.t.funcs).2.1 (bodiesE E.t 0 E.t.funcs).2.2) /\
   ∃g' v' bt' tk' fn' st',Cs {E with gp:=g'} w' [] [] v' bt' tk' fn' st'/\((bodiesE E.t 0 E.t.funcs).1=0->fn'= -1/\st'= -1):=by
 have Jq:=ah h;have Xb:=ah Xf;have Jz:=ah Xg;have HP:=ah hp;have Xi:=ah Xe;obtain⟨Ji,Je⟩:=q_ (bodiesE E.t 0 E.t.funcs);rw[<-Je];have Z:=ah Je;obtain⟨g,Xs,rfl,hg,h1,h2,h3,-⟩:=ja.cut (bs:=[]) h.row;have c0:=h.box.c0;have c2:=h.box.c2;have hC:=h.ltC;have Xc:=h.fun0.1;simp only at c0 c2 Xc;obtain⟨af,cf,Jo,-,-,Jf⟩:=Xc;rw[Jo]at c2;have Xm:=ah Jf;clear h Xf Xg hp Xe Je Jf Jo;simp only[l_n,Nat.zero_add]at c0 h1 h3;go_in;go_wp2;go_loopw[20] (λj wr=>∃(k:Nat) (g':GA->Bool) (v':BY) (bt':Nat) (tk':List GA) (fn' st':Int),k<=E.t.funcs.length/\j=V k/\Cs {E with gp:=g'} wr [] [] v' bt' tk' fn' st'/\Ji=bodiesE E.t k (E.t.funcs.drop k)) (λj _=>E.t.funcs.length-(RowKit.intOf j).toNat)
 case atStart=>exact⟨0,g0,_,bt,tk,fn,st,y_,rfl,Jq,Z⟩
 case round=>
  clear Jq c0 c2 h3 hC Z;obtain⟨k,g1,v1,Xd,Jn,Xq,Xo,hk,rfl,I,Jj⟩:=hrel;have HC:=ah I;have Z:=ah Jj;have y4:=I.box.c4;have y5:=I.box.c5;have y6:=I.box.c6;have f4:=I.box.fz 4;have f5:=I.box.fz 5;have f6:=I.box.fz 6;have hC:=I.ltC;simp only at y4 y5 y6 f4 f5 f6 hC;clear Jj;by_cases hlt:k<E.t.funcs.length
  ·obtain⟨bf,of,rfl,Jf⟩:=Xm o_;obtain⟨vp,vb,⟨d0,d1,d2⟩,Jx,Jm⟩:=Jf k hlt;have Jh:bf<E.w0.heap.size:=b_ d0;have e0:=(I.base.cell (p:=⟨bf,of+k*3,none⟩) Jh).trans d0;have e1:=(I.base.cell (p:=⟨bf,of+k*3+1,none⟩) Jh).trans d1;have e2:=(I.base.cell (p:=⟨bf,of+k*3+2,none⟩) Jh).trans d2;have Xr:bf<E.C:=l_ Jh I.low;have Jv:=ah Jx;have Jl:=ah Jm;have Js:Hid (A5 E.t.funcs[k]):=Xi _ (g_ hlt);have Jk:Hid (Ji=bodiesE E.t k (E.t.funcs[k]::E.t.funcs.drop (k+1))):=by show _=_;rw[Z.o,dC _ _ hlt]
   obtain⟨ap,cp,rfl,-⟩:=Jx;obtain⟨ab,cb,rfl,-⟩:=Jm;obtain⟨ng,Dg,-,⟨es,Jp,J_,-⟩,-⟩:=I.glob;simp only at J_;clear Jf d0 d1 d2 I Z Jh;generalize E.t.funcs[k]=f at e0 e1 e2 Jv Jl Js Jk;go_wp2_with fail;obtain⟨J,Y⟩:=q_ ((((wr.setCell ⟨E.C,5,none⟩ (V (k:Int))).setCell ⟨E.C,6,none⟩ (V (-1))).alloc (.cells #[sV f.name,.slice ap f.params.length cp,.slice ab f.body.length cb] 97)));obtain⟨M,hM⟩:=q_ wr.heap.size;have Jg:Hid (Cs {E with gp:=g1} J [] [] v1 Xd Jn (k:Int) (-1)):=by
    show Cs _ _ _ _ _ _ _ _ _;rw[Y];exact((HC.o.put 5 _ (HC.o.box.s5 (k:Int))).put 6 _ ((HC.o.box.s5 (k:Int)).s6 (-1))).below (au _ _)
   have z4:=Jg.o.box.c4;have zf:=Jg.o.box.fz 4;have Jw:=Jg.o.ltC;simp only at z4 zf Jw;have Xp:M<J.heap.size:=by rw[Y,hM];simp
   have m0:DO J M 0 (sV f.name):=by rw[Y];exact(cell?_alloc_at _ _ _ _ (by simp[hM])).trans rfl
   have m1:DO J M 1 (.slice ap f.params.length cp):=by rw[Y];exact(cell?_alloc_at _ _ _ _ (by simp[hM])).trans rfl
   have m2:DO J M 2 (.slice ab f.body.length cb):=by rw[Y];exact(cell?_alloc_at _ _ _ _ (by simp[hM])).trans rfl
   have Xt:M≠E.C:=o_;obtain⟨ng,Dg,-,⟨Jr,Jb,Jc,-⟩,-⟩:=Jg.o.glob;simp only at Jc;rw[<-Y,<-hM];clear Y hM y4 y5 y6 f4 f5 f6 e0 e1 e2 J_;refine(wG E.bg Jr Jb J Jc).mono ?_;rintro e w2 ⟨rfl,hw⟩;rw[hw];clear hw;have Xl:=ah Jc;clear Jc;go_wp2_with fail;have Xj:Hid (Cs E ((J.setCell ⟨E.C,4,none⟩ (.map (some J.heap.size))).alloc (.map Jr Jb)) [] [] v1 J.heap.size [] (k:Int) (-1)):=by
    have:=Cs.fresh Jg.o Xl.o Xn Xb.o Jz.o HP.o
    rw[setCell_alloc_past _ _ _ _ Jw]at this;exact this
   obtain⟨k1,k2,k3,k4,k5,k6⟩:=Js;refine(wE Xj Xb Jz HP o_ f _ _ Jv ⟨Jl,k1,k2,k3⟩ k4 k5 k6).mono ?_;rintro e w3 ⟨rfl,⟨v3,Xa,Jt,Jy,-⟩,-⟩;have Ju:=ah Jy;clear Jy k1 k2 k3 k4 k5 k6 z4 zf m0 m1 m2;by_cases hz:(cZ E.t k f).1=0
   ·have U:Hid (Ji=bodiesE E.t (k+1) (E.t.funcs.drop (k+1))):=by
     show _=_;rw[Jk.o,bodiesE,if_neg (by simp[hz])]
    rw[hz,dv];clear hz;go_wp2;go_roundw
    case rel=>exact⟨k+1,E.gp,v3,_,Xa,(k:Int),Jt,o_,by go_num,Ju,U⟩
    case measure=>exact FW
   ·have U:Hid (Ji=((cZ E.t k f).1,(k:Int),(cZ E.t k f).2.2)):=by
     show _=_;rw[Jk.o,bodiesE,if_pos hz];unfold cZ at hz⊢;split
     ·rfl
     ·rename_i hd;rw[if_neg hd]at hz;split
      ·rfl
      ·rename_i hd2;rw[if_neg hd2]at hz;simp at hz
    have HZ:=ah hz;rw[bU hz];generalize (cZ E.t k f).1=z1 at U HZ⊢;generalize (cZ E.t k f).2.2=z2 at U⊢;clear hz;go_wp2;go_ret;exact⟨aG (by rw[U.o,bU HZ.o];rfl),E.gp,v3,_,Xa,_,Jt,Ju,λh=>absurd h (by rw[U.o];exact HZ)⟩
  ·have U:Hid (Ji=(0,-1,-1)):=by
    show _=_;have Xh:k=E.t.funcs.length:=o_;rw[Z.o,Xh,drop_length];rfl
   have Xk:=ah ((HC.o.put 5 _ (HC.o.box.s5 (-1))).put 6 _ ((HC.o.box.s5 (-1)).s6 (-1)));clear I Z;go_wp2;go_ret;exact⟨aG (by rw[U.o];rfl),g1,v1,Xd,Jn,-1,-1,Xk,λ_=>⟨rfl,rfl⟩⟩
end
section
variable{w:AT}
theorem sP{l:List Gl}{g:Gl}(h:du (l.map (·.name)) g.name=false):kN (cV l) g.name g.size=cV (l++[g]):=by
 funext s
 unfold kN cV;rw[find?_append];by_cases e:g.name=s
 ·have h2:l.find? (λx=>decide (x.name=s))=none:=by
   rw[find?_eq_none];intro x I;simp only[GF];intro J;have h3:du (l.map (·.name)) g.name=true:=by
    unfold du;rw[any_eq_true];exact⟨x.name,mem_map_of_mem I,by simp[J,e]⟩
   rw[h]at h3;cases h3
  rw[h2];simp[e]
 ·simp only[e,if_false];cases hf:l.find? (λx=>decide (x.name=s))with
  | none=>simp[e]
  | some x=>simp
structure FQ (w0:AT) (C bn nn:Nat) (D:DataW Unit) (t:Tr) (vg vf:BY) (w:AT):Prop where
 c0:w.cell? ⟨C,0,none⟩=some nV
 c1:w.cell? ⟨C,1,none⟩=some vg
 c2:w.cell? ⟨C,2,none⟩=some vf
 c3:w.cell? ⟨C,3,none⟩=some (.map (some bn))
 c4:∃x,w.cell? ⟨C,4,none⟩=some x
 c5:w.cell? ⟨C,5,none⟩=some (V (-1))
 c6:w.cell? ⟨C,6,none⟩=some (V (-1))
 fz:∀o,w.frozen? ⟨C,o,none⟩=false
 low:w0.heap.size<=C
 base:Bl w0 w
 fun0:bC w0 vf t.funcs/\cK w0 vg t.globals
 own:w.ownsMap prog 9 (plainElem (H:=Unit) prog 2) bn nn D
 num:cR D t.funcs
 gt:C<bn
theorem zG{w0:World}{C bn nn:Nat}{D:DataW Unit}{t:Tr}{vg vf:Value}(h:FQ w0 C bn nn D t vg vf w):
  Calls prog 136 #[pV C] ((w.setCell ⟨C,4,none⟩ (.map (some w.heap.size))).alloc (.map #[] 0)) λe w'=>(∃u,e=rW u)/\∃v,
   Cs ⟨w0,C,w.heap.size+1,bn,nn,D,t,vg,vf,λ_=>none,λ_=>false,0⟩ w' [] [] v w.heap.size [] (-1) (-1):=by
 have hC:C<w.heap.size:=b_ h.c0;obtain⟨x4,Jj⟩:=h.c4;obtain⟨W,J⟩:=q_ ((w.setCell ⟨C,4,none⟩ (.map (some w.heap.size))).alloc (.map #[] 0));have hs:W.heap.size=w.heap.size+1:=by rw[J];simp
 have U:∀o,o≠4->W.cell? ⟨C,o,none⟩=w.cell? ⟨C,o,none⟩:=λo Z=>by
  rw[J,World.cell?_alloc_lt _ _ ⟨C,o,none⟩ (by simpa using hC)];exact s_ _ _ _ _ (bJ (λe=>Z e.symm))
 have h4:W.cell? ⟨C,4,none⟩=some (.map (some w.heap.size)):=by
  rw[J,World.cell?_alloc_lt _ _ ⟨C,4,none⟩ (by simpa using hC)];exact World.cell?_setCell_same _ _ _ Jj
 have Jh:∀o,W.frozen? ⟨C,o,none⟩=false:=λo=>by
  rw[J,World.frozen?_alloc_past _ _ _ (by simpa using hC)];simpa using h.fz o
 have Jg:∀b,b<w.heap.size->b≠C->W.heap[b]? =w.heap[b]? := λb I hne=>by
  rw[J,Below.heap_alloc _ _ _ (by simpa using I),Below.heap_setCell _ _ _ b hne]
 have Jc:Bl w0 W:=by
  rw[J];exact(h.base.setCell (p:=⟨C,4,none⟩) h.low _).alloc (by have:=h.base.size;simpa using this) _
 have Ji:W.ownsMap prog 9 (plainElem (H:=Unit) prog 2) w.heap.size 0 (.map []):=by
  have:=World.ownsMap_made (H:=Unit) (w.setCell ⟨C,4,none⟩ (.map (some w.heap.size))) prog 9 (plainElem (H:=Unit) prog 2)
  rw[<-J]at this;simpa using this
 have Jd:W.ownsMap prog 9 (plainElem (H:=Unit) prog 2) bn nn D:=aL h.own (Jg _ h.own.lt (by have:=h.gt;omega));rw[<-J];have Jf:ja (C+1) W nV []:=⟨i_,.inl ⟨rfl,rfl⟩⟩;refine(qq C (C+1) [] nV W o_ o_ ((U 0 d_).trans h.c0) (Jh 0) Jf i_).mono ?_;rintro e w' ⟨he,Y,w1,rfl,hr,hm,hg,Z⟩;rw[hs]at hm hr Z;have Jb:∀b,b<W.heap.size->b≠C->(w1.setCell ⟨C,0,none⟩ Y).heap[b]? =W.heap[b]? := λb I hne=>(Below.heap_setCell _ _ _ b hne).trans (hg.block b I (by simp[Value.ownBlock]));have Jk:w1.heap[C]? =W.heap[C]? := hg.block C o_ (by simp[Value.ownBlock]);have Je:gX W C nV vg vf bn w.heap.size (-1) (-1):=⟨(U 0 d_).trans h.c0,(U 1 d_).trans h.c1,(U 2 d_).trans h.c2,(U 3 d_).trans h.c3,h4,(U 5 d_).trans h.c5,(U 6 d_).trans h.c6,Jh⟩;have Jm:=h.own.lt;have Jl:=h.gt;refine⟨he,Y,(Je.keep Jk).s0 Y,h.low,(Jc.grown hg Jc.size (λk hk=>by simp[Value.ownBlock]at hk)).setCell (p:=⟨C,0,none⟩) h.low Y,h.fun0,hr,rfl,i_,⟨0,_,n_,hm,dy.nil⟩,λj hj=>absurd hj i_,aL Jd (Jb _ (by show bn<_;omega) (by show bn≠C;omega)),h.num,⟨0,_,_,i_,aL Ji (Jb _ o_ o_),dy.nil,λs=>by simp[du]⟩,?_,?_,?_⟩
 ·simp only[List.nodup_cons,List.mem_cons,not_or,List.not_mem_nil,not_false_eq_true,and_true];refine⟨⟨o_,o_⟩,o_,?_⟩;simp
 ·intro b I;simp only[List.mem_cons,List.not_mem_nil,or_false]at I;show C<b;rcases I with rfl|rfl|rfl <;> omega
 ·intro x hx I;simp only[List.mem_cons,List.not_mem_nil,or_false]at I;rcases Z x hx with q|q
  ·simp[Value.ownBlock]at q
  ·rcases I with rfl|rfl|rfl <;> omega
def ld.same(E:ld){f:GA->Option Int}{n:Nat}(h:f=E.gf)(h2:n=E.ng):{E with gf:=f,ng:=n}=E:=by subst h h2;rfl
theorem EA{M:Nat}{w':World}{t:TypeId}{h I:Value}(U:M=w.heap.size)(J:w'=w.alloc (.cells #[h,I] t)):w'.cell? ⟨M,0,none⟩=some h/\w'.cell? ⟨M,1,none⟩=some I:=by
 subst U J;simp
theorem FZq{E:ld}(h:FQ E.w0 E.C E.bn E.nn E.D E.t E.vg E.vf w)(Xm:E.bg=w.heap.size+1)(Jz:E.gf=λ_=>none)(J_:E.gp=λ_=>false)(Jy:E.ng=0)
  (Yc:E.t.globals.length<=1000) (Yf:E.t.funcs.length<=1000) (Xo:∀g∈E.t.globals,g.name.size<=9223372036854775807/\0<=g.size/\g.size<=4000) (Xn:∀f∈E.t.funcs,f.name.size<=9223372036854775807):
  Calls prog 105 #[pV E.C] w λe w'=>e=rW (eM (fX E.t).1 (fX E.t).2.1 (fX E.t).2.2) /\
   ∃gf' ng' v bt tk fn st,Cs {E with gf:=gf',ng:=ng'} w' [] [] v bt tk fn st/\((fX E.t).1=0->gf'=cV E.t.globals/\ng'<=1000/\fn= -1/\st= -1):=by
 have Xl:Hid (Calls prog 136 #[pV E.C] ((w.setCell ⟨E.C,4,none⟩ (.map (some w.heap.size))).alloc (.map #[] 0)) λe w'=>(∃u,e=rW u)/\∃v,Cs E w' [] [] v w.heap.size [] (-1) (-1)):=by
  have h1:=zG h;have e:(⟨E.w0,E.C,w.heap.size+1,E.bn,E.nn,E.D,E.t,E.vg,E.vf,λ_=>none,λ_=>false,0⟩:ld)=E:=by rw[<-Xm,<-Jz,<-J_,<-Jy]
  rw[e]at h1;exact h1
 have Xh:=ah J_;have Xs:=ah Xo;have Xp:=ah Xn;have Jw:Hid (E.gf=cV []/\E.ng=0):=⟨by rw[Jz];rfl,Jy⟩;obtain⟨Jt,Jg⟩:=q_ (fX E.t);rw[<-Jg];have Jc:=ah Jg;have hC:E.C<w.heap.size:=b_ h.c0;obtain⟨x4,y4⟩:=h.c4;have f4:=h.fz 4;have Xw:= @run_makeMap prog;obtain⟨ag,cg,Xk,-,-,Jj⟩:=h.fun0.2;obtain⟨af,cf,Xb,-,-,Ji⟩:=h.fun0.1;have Xt:=ah Jj;have Yb:=ah Ji;have Xv:=ah Xk;have X_:=ah Xb;clear h Xm Jz J_ Jy Jg Jj Ji Xo Xn Xk Xb;go_in;go_wp2_with fail;refine Xl.out.mono ?_;rintro e w1 ⟨⟨u,rfl⟩,v,Jn⟩;obtain⟨bt,Xc⟩:=q_ w.heap.size;rw[<-Xc]at Jn⊢;have Xe:=ah Jn;have c1:=Jn.box.c1;rw[Xv.out]at c1;clear Jn y4 f4 hC Xw Xl Xc;go_wp2;go_loopw[23] (λj wr=>∃(k:Nat),k<=E.t.globals.length/\j=V k/\Cs {E with gf:=cV (E.t.globals.take k),ng:=k} wr [] [] v bt ((E.t.globals.take k).map (·.name)) (-1) (-1)/\fd [] E.t.globals=fd ((E.t.globals.take k).map (·.name)) (E.t.globals.drop k)) (λj _=>E.t.globals.length-(RowKit.intOf j).toNat)
 case atStart=>
  refine⟨0,y_,rfl,?_,i_⟩;have e:{E with gf:=cV (E.t.globals.take 0),ng:=0}=E:=by
   exact ld.same E (by rw[Jw.out.1];simp) Jw.out.2.symm
  rw[e];exact Xe
 case round=>
  clear Xe c1 Jw;obtain⟨k,hk,rfl,I,hd⟩:=hrel;have U:=ah I;have HD:=ah hd;clear hd;by_cases hlt:k<E.t.globals.length
  ·obtain⟨b0,o0,rfl,Jj⟩:=Xt.out o_;obtain⟨d0,d1⟩:=Jj k hlt;have Jr:b0<E.w0.heap.size:=b_ d0;have Z:=(I.base.cell (p:=⟨b0,o0+k*2,none⟩) Jr).trans d0;have Y:=(I.base.cell (p:=⟨b0,o0+k*2+1,none⟩) Jr).trans d1;obtain⟨Xy,Xu,Xq⟩:=Xs.out _ (g_ hlt);have hZ:E.t.globals[k].name.size<=maxLen:=by unfold maxLen;omega
   have Xa:Hid ((Lit.int .i64 E.t.globals[k].size).wf=true):=WalkArith.wf_i64 o_;have Jb:Hid (fd [] E.t.globals=fd ((E.t.globals.take k).map (·.name)) (E.t.globals[k]::E.t.globals.drop (k+1))):=by show _=_;rw[HD.out,dC _ _ hlt]
   have Jd:=ah (aR _ _ hlt);have Xx:((E.t.globals.take k).map (·.name)).length<=1000:=by simp;omega
   have Ye:b0<wr.heap.size:=b_ Z;clear Jj d0 d1 I HD Jr Xy Xu Xq;generalize E.t.globals[k]=p at Z Y hZ Xa Jb Jd;obtain⟨WA,J⟩:=q_ (wr.alloc (.cells #[sV p.name,V p.size] 63));obtain⟨M,hM⟩:=q_ wr.heap.size;have Je:Hid (Cs {E with gf:=cV (E.t.globals.take k),ng:=k} WA [] [] v bt ((E.t.globals.take k).map (·.name)) (-1) (-1)):=by
    show Cs _ _ _ _ _ _ _ _ _;rw[J];exact U.out.below (au _ _)
   obtain⟨m0,m1⟩:=EA hM J;have Jv:M<WA.heap.size:=by rw[J,hM];simp
   have Xi:M≠bt:=by have:=U.out.lt bt i_;omega
   have Xf:M≠E.bg:=by have:=U.out.lt E.bg i_;omega
   cases hx:du ((E.t.globals.take k).map (·.name)) p.name with
   | true=>
    have HE:Hid (Jt=(2,-1,-1)):=by
     show _=_;rw[Jc.out];unfold fX;rw[if_pos (by rw[Jb.out];exact qb hx)]
    have HX:Hid (du ((E.t.globals.take k).map (·.name)) p.name=true∨E.gp p.name=true):=.inl hx;clear hx;go_wp2_with fail;rw[<-J];clear J hM Z Y;refine(lf Je.out hZ HX).mono ?_;rintro e w2 ⟨rfl,hw⟩;rw[hw,bU d_];clear hw;go_wp2;go_ret;exact⟨aG (by rw[HE.out];rfl),_,_,_,_,_,_,_,Je,λh=>absurd h (by rw[HE.out];show ¬(2:Int)=0;decide)⟩
   | false=>
    have HX:Hid (¬(du ((E.t.globals.take k).map (·.name)) p.name=true∨E.gp p.name=true)):=by
     show ¬(_∨_);rw[Xh.out,hx];simp
    have Jp:Hid (fd [] E.t.globals=fd ((E.t.globals.take (k+1)).map (·.name)) (E.t.globals.drop (k+1))):=by show _=_;rw[Jb.out,mY hx,Jd.out];simp
    have Xz:Hid (kN (cV (E.t.globals.take k)) p.name p.size=cV (E.t.globals.take (k+1))):=by show _=_;rw[sP hx,Jd.out]
    have Jl:Hid ((E.t.globals.take k).map (·.name)++[p.name]=(E.t.globals.take (k+1)).map (·.name)):=by show _=_;rw[Jd.out];simp
    clear hx;go_wp2_with fail;rw[<-J];rw[<-hM];clear J hM Z Y;refine(lg Je.out hZ o_ HX).mono ?_;rintro e w2 ⟨rfl,Jf,Jh⟩;rw[Jl.out]at Jf;have Jk:=ah (Jf.below (r_.drew));have x0:w2.cell? ⟨M,0,none⟩=some (sV p.name):=(Jh.cell Jv Xi 0).trans m0;have x1:w2.cell? ⟨M,1,none⟩=some (V p.size):=(Jh.cell Jv Xi 1).trans m1;have Xj:M<w2.heap.size:=l_ Jv Jh.size;have Ya:Hid (Calls prog 138 #[pV E.C,sV p.name,V p.size] w2.drew λe w'=>(∃u,e=rW u)/\Cs {E with gf:=cV (E.t.globals.take (k+1)),ng:=k+1} w' [] [] v bt ((E.t.globals.take (k+1)).map (·.name)) (-1) (-1)/\ak (λj=>j=E.bg) w2.drew w'):=by
     have:=FP Jk.out hZ Xa.out (by show k<=_;omega)
     simp only[Xz.out]at this;exact this
    clear Jf Jh m0 m1;go_wp2_with fail;go_region_held3 (λW=>W.cell? ⟨M,0,none⟩=some (sV p.name)/\W.cell? ⟨M,1,none⟩=some (V p.size)) (go_simp)
     (first
     | ((with_reducible refine Calls.mono Ya.out ?_);rintro e w3 ⟨⟨u3,rfl⟩,Xg,Jx⟩;have Jq:w3.cell? ⟨M,0,none⟩=some (.string p.name):=(Jx.cell Xj Xf 0).trans x0;have Js:w3.cell? ⟨M,1,none⟩=some (.int .i64 p.size):=(Jx.cell Xj Xf 1).trans x1))
    have Xr:=ah Xg;clear Xg Jx x0 x1 Jq Js;go_wp2;go_roundw
    case rel=>exact⟨k+1,o_,by go_num,Xr,Jp⟩
    case measure=>simp[RowKit.intOf];omega
  ·have Jo:k=E.t.globals.length:=o_
   subst Jo;have Xd:Hid (fd [] E.t.globals=false):=by show _=_;rw[HD.out];simp[fd]
   have Ju:Hid (Cs {E with gf:=cV E.t.globals,ng:=E.t.globals.length} wr [] [] v bt (E.t.globals.map (·.name)) (-1) (-1)):=by
    have:=U.out
    rw[List.take_length]at this;exact this
   have c2:=Ju.out.box.c2;simp only at c2;rw[X_.out]at c2;clear U HD I;go_wp2;go_loopw[49] (λj w2=>∃(k:Nat) (fn':Int),k<=E.t.funcs.length/\j=V k/\Cs {E with gf:=cV E.t.globals,ng:=E.t.globals.length} w2 [] [] v bt (E.t.globals.map (·.name)++(E.t.funcs.take k).map (·.name)) fn' (-1)/\fG (E.t.globals.map (·.name)) 0 E.t.funcs=fG (E.t.globals.map (·.name)++(E.t.funcs.take k).map (·.name)) k (E.t.funcs.drop k)) (λj _=>E.t.funcs.length-(RowKit.intOf j).toNat)
   case atStart=>exact⟨0,-1,y_,rfl,by simpa using Ju.out,i_⟩
   case round=>
    clear Ju c2;obtain⟨k,Yd,hk,rfl,I,hd⟩:=hrel;have U:=ah I;have HD:=ah hd;have y5:=I.box.c5;have f5:=I.box.fz 5;have hC:=I.ltC;simp only at y5 f5 hC;clear hd;by_cases hlt:k<E.t.funcs.length
    ·obtain⟨bf,of,rfl,Ji⟩:=Yb.out o_;obtain⟨vp,vb,⟨d0,d1,d2⟩,⟨ap,cp,rfl,-⟩,⟨ab,cb,rfl,-⟩⟩:=Ji k hlt;have Jm:bf<E.w0.heap.size:=b_ d0;have Z:=(I.base.cell (p:=⟨bf,of+k*3,none⟩) Jm).trans d0;have Y:=(I.base.cell (p:=⟨bf,of+k*3+1,none⟩) Jm).trans d1;have e2:=(I.base.cell (p:=⟨bf,of+k*3+2,none⟩) Jm).trans d2;have hZ:E.t.funcs[k].name.size<=maxLen:=by have:=Xp.out _ (g_ hlt);unfold maxLen;omega
     have Jb:Hid (fG (E.t.globals.map (·.name)) 0 E.t.funcs=fG (E.t.globals.map (·.name)++(E.t.funcs.take k).map (·.name)) k (E.t.funcs[k]::E.t.funcs.drop (k+1))):=by show _=_;rw[HD.out,dC _ _ hlt]
     have Jd:=ah (aR _ _ hlt);have Xx:(E.t.globals.map (·.name)++(E.t.funcs.take k).map (·.name)).length<=2000:=by simp;omega
     clear Ji d0 d1 d2 I HD Jm;generalize E.t.funcs[k]=f at Z Y e2 hZ Jb Jd;obtain⟨WA,J⟩:=q_ ((wr.setCell ⟨E.C,5,none⟩ (V (k:Int))).alloc (.cells #[sV f.name,.slice ap f.params.length cp,.slice ab f.body.length cb] 97));have Je:Hid (Cs {E with gf:=cV E.t.globals,ng:=E.t.globals.length} WA [] [] v bt (E.t.globals.map (·.name)++(E.t.funcs.take k).map (·.name)) (k:Int) (-1)):=by
      show Cs _ _ _ _ _ _ _ _ _;rw[J];exact(U.out.put 5 _ (U.out.box.s5 (k:Int))).below (au _ _)
     cases hx:du (E.t.globals.map (·.name)++(E.t.funcs.take k).map (·.name)) f.name with
     | true=>
      have HE:Hid (Jt=(2,(k:Int),-1)):=by
       show _=_;rw[Jc.out];unfold fX;rw[if_neg (by rw[Xd.out];simp),Jb.out,qc hx]
      have HX:Hid (du (E.t.globals.map (·.name)++(E.t.funcs.take k).map (·.name)) f.name=true∨E.gp f.name=true):=.inl hx;clear hx;go_wp2_with fail;rw[<-J];clear J Z Y e2;refine(lf Je.out hZ HX).mono ?_;rintro e w2 ⟨rfl,hw⟩;rw[hw,bU d_];clear hw;go_wp2;go_ret;exact⟨aG (by rw[HE.out];rfl),_,_,_,_,_,_,_,Je,λh=>absurd h (by rw[HE.out];show ¬(2:Int)=0;decide)⟩
     | false=>
      have HX:Hid (¬(du (E.t.globals.map (·.name)++(E.t.funcs.take k).map (·.name)) f.name=true∨E.gp f.name=true)):=by
       show ¬(_∨_);rw[Xh.out,hx];simp
      have Jl:Hid (E.t.globals.map (·.name)++(E.t.funcs.take k).map (·.name)++[f.name]=E.t.globals.map (·.name)++(E.t.funcs.take (k+1)).map (·.name)):=by show _=_;rw[Jd.out];simp
      have Jp:Hid (fG (E.t.globals.map (·.name)) 0 E.t.funcs=fG (E.t.globals.map (·.name)++(E.t.funcs.take (k+1)).map (·.name)) ((k+1:Nat):Int) (E.t.funcs.drop (k+1))):=by show _=_;rw[Jb.out,mZ hx,Jl.out];simp
      clear hx;go_wp2_with fail;rw[<-J];clear J Z Y e2;refine(lg Je.out hZ o_ HX).mono ?_;rintro e w2 ⟨rfl,Jf,Jh⟩;rw[Jl.out]at Jf;have Jk:=ah Jf;clear Jf Jh;go_wp2;go_roundw
      case rel=>exact⟨k+1,(k:Int),o_,by go_num,Jk,Jp⟩
      case measure=>simp[RowKit.intOf];omega
    ·have HN:Hid (Jt=(0,-1,-1)):=by
      show _=_;have Jo:k=E.t.funcs.length:=o_;have Y:fG (E.t.globals.map (·.name)) 0 E.t.funcs=none:=by rw[HD.out,Jo,List.drop_length];rfl
      rw[Jc.out];unfold fX;rw[if_neg (by rw[Xd.out];simp),Y]
     have Jk:=ah (U.out.put 5 _ (U.out.box.s5 (-1)));clear I;go_wp2;go_ret;exact⟨aG (by rw[HN.out];rfl),_,_,_,_,_,_,_,Jk,λ_=>⟨rfl,Yc,rfl,rfl⟩⟩
end
end Go.Proofs.YtffnkkpmlplfeaaGreatDoor
