import Derived.Test.YtngnoopnloojjaaGreatDoorQ45
import Derived.Shelf.SlMaps.Clone
import Derived.Test.YtngnoopnloojjaaGreatDoorQ54
namespace Go.Proofs.YtngnoopnloojjaaGreatDoor
open Go.Value Go.World List
open Go.Proofs.Tryz Go.RowKit
set_option linter.all false
set_option maxRecDepth 100000
set_option maxHeartbeats 0
variable[Inhabited Pick]
section
variable{E:oO}{w:AT}{v:BY}{bt:Nat}{tk:List IF}{fn st:Int}
def Cu(b:Nat)(H:Array MapEntry)(Ja:Nat)(w:AT)(I:w.heap[b]? =some (.map H Ja)):
  Calls prog 125 #[.map (some b)] w λe w'=>e=rW (.map (some w.heap.size))/\w'=w.alloc (.map H Ja):=by
 have O:=λw=>run_eql_map_nil_sl (P:=prog) w 131 _ _ (some b) underlying131;have J:= @run_callFunc_extern prog 165 _ Extern.MapsClone.clone func165 k_ k_ k_ k_;have Jb:=run_maps_clone_sl (P:=prog) w 131 I;have Jc:=λ(w:AT) (v:BY)=>run_typeAssert_map_sl (P:=prog) w 131 20 _ _ v underlying131;go_in;go_wp2;go_ret;exact⟨rfl,rfl⟩
def zc{H:List Gl}(I:∀g∈H,0<=g.size)(s:IF):(cP H s).isSome=decide (0<=globI H s):=by rcases Ay (s:=s) I with⟨h,h2⟩|⟨z,h,h2,h3⟩;rw[h,h2];rfl;rw[h,h2];simp[h3]
def Cs.fresh{g':IF->Bool}{J:Array MapEntry}{Ja:Nat}(h:Cs {E with gp:=g'} w [] [] v bt tk fn st)(Jj:w.heap[E.bg]? =some (.map J Ja))(Jp:E.ng<=1000)(Jk:E.gf=cP E.t.gl)(Jl:E.gp=λs=>decide (0<=globI E.t.gl s))(hp:∀g∈E.t.gl,0<=g.size):
  Cs E ((w.alloc (.map J Ja)).setCell ⟨E.C,4,none⟩ (.map (some w.heap.size))) [] [] v w.heap.size [] fn st:=by
 have I:=h.below ((Below.refl w.heap.size w).alloc n_ (.map J Ja));have⟨ng,Dg,g0,g1,g2⟩:=h.glob;have Jm:ng<=E.ng:=g0;obtain⟨Jg,Jb,e1,F,hs,hD⟩:=g1;have Z:some (Obj.map J Ja)=some (.map Jg Jb):=Jj.symm.trans e1;simp only[If,Obj.map.injEq]at Z;obtain⟨rfl,rfl⟩:=Z;have Y:=h.ltC;have X:∀b,E.C<b->((w.alloc (.map J Ja)).setCell ⟨E.C,4,none⟩ (.map (some w.heap.size))).heap[b]? =(w.alloc (.map J Ja)).heap[b]? := λb O=>Below.heap_setCell _ _ _ b (λe=>by simp at e;omega);have Jd:((w.alloc (.map J Ja)).setCell ⟨E.C,4,none⟩ (.map (some w.heap.size))).ownsMap prog 9 (plainElem (H:=Unit) prog 2) w.heap.size ng Dg:=⟨J,Ja,(X _ Y).trans (show(w.heap.push _)[w.heap.size]? =_ by simp),F,hs,hD⟩;have Jf:=I.nd;have Jc:=I.gt;have Je:=h.lt;simp only[nodup_cons,mem_cons,not_or,not_mem_nil,not_false_eq_true,and_true]at Jf;have⟨Jh,Ji,k0,k1,k2⟩:=I.glob;refine⟨I.box.s4 _,I.low,I.base.setCell (p:=⟨E.C,4,none⟩) I.low _,I.fun0,I.row.other (Nat.lt_succ_self _),rfl,I.small,⟨Jh,Ji,k0,aI k1 (X _ (Jc _ i_)),k2⟩,λj hj=>absurd hj i_,aI I.own (X _ (Jc _ i_)),I.num,⟨ng,Dg,_,by simp only[l_n];omega,Jd,g2,λs=>?_⟩,?_,?_,?_⟩
 rw[Jl];show(E.gf s).isSome=_;rw[Jk,zc hp];simp[fT];have l1:=Je E.bg i_;have l2:=Je E.bn i_;simp only[nodup_cons,mem_cons,not_or,not_mem_nil,not_false_eq_true,and_true];have Jn:E.bg<w.heap.size:=l1;have Jo:E.bn<w.heap.size:=l2;refine⟨⟨Jf.1.1,o_⟩,o_,?_⟩;simp;intro b O;simp only[mem_cons,not_mem_nil,or_false]at O;rcases O with rfl|rfl|rfl;exact Jc _ i_;exact Jc _ i_;exact Y;intro x U O;simp only[mem_cons,not_mem_nil,or_false]at O;have l:=(h.rlt x U).2;rcases O with rfl|rfl|rfl;exact h.rown _ U i_;exact h.rown _ U i_;omega
def zd{g0:IF->Bool}(h:Cs {E with gp:=g0} w [] [] v bt tk fn st)(Xn:E.ng<=1000)(Xf:E.gf=cP E.t.gl)(Xg:E.gp=λs=>decide (0<=globI E.t.gl s))(hp:∀g∈E.t.gl,0<=g.size)(Xu:E.t.fc.length<=1000)(Xe:∀f∈E.t.fc,Kf f):
  Calls prog 78 #[pV E.C] w λe w'=>e=rW (fD (bodiesE E.t 0 E.t.fc).1 (bodiesE E.t 0 E.t.fc).2.1 (bodiesE E.t 0 E.t.fc).2.2) /\
   ∃g' v' bt' tk' fn' st',Cs {E with gp:=g'} w' [] [] v' bt' tk' fn' st'/\((bodiesE E.t 0 E.t.fc).1=0->fn'= -1/\st'= -1):=by
 have Jq:=ah h;have Xb:=ah Xf;have Jz:=ah Xg;have HP:=ah hp;have Xi:=ah Xe;have⟨Ji,Je⟩:=q_ (bodiesE E.t 0 E.t.fc);rw[<-Je];have Ja:=ah Je;obtain⟨g,Xs,rfl,hg,h1,h2,h3,-⟩:=kU.cut (bs:=[]) h.row;have c0:=h.box.c0;have c2:=h.box.c2;have hC:=h.ltC;have Xc:=h.fun0.1;simp only at c0 c2 Xc;obtain⟨af,cf,Jo,-,-,Jf⟩:=Xc;rw[Jo]at c2;have Xm:=ah Jf;clear h Xf Xg hp Xe Je Jf Jo;simp only[l_n,Nat.zero_add]at c0 h1 h3;go_in;go_wp2;go_loopw[20] (λj wr=>∃(k:Nat) (g':IF->Bool) (v':BY) (bt':Nat) (tk':List IF) (fn' st':Int),k<=E.t.fc.length/\j=V k/\Cs {E with gp:=g'} wr [] [] v' bt' tk' fn' st'/\Ji=bodiesE E.t k (E.t.fc.drop k)) (λj _=>E.t.fc.length-(RowKit.intOf j).toNat)
 case atStart=>exact⟨0,g0,_,bt,tk,fn,st,y_,rfl,Jq,Ja⟩
 case round=>
  clear Jq c0 c2 h3 hC Ja;obtain⟨k,g1,Z,Xd,Jn,Xq,Xo,hk,rfl,H,Jj⟩:=hrel;have U:=ah H;have Ja:=ah Jj;have y4:=H.box.c4;have y5:=H.box.c5;have y6:=H.box.c6;have f4:=H.box.fz 4;have f5:=H.box.fz 5;have f6:=H.box.fz 6;have hC:=H.ltC;simp only at y4 y5 y6 f4 f5 f6 hC;clear Jj;by_cases hlt:k<E.t.fc.length
  ·obtain⟨X,Y,rfl,Jf⟩:=Xm o_;have⟨vp,vb,⟨d0,d1,d2⟩,Jx,Jm⟩:=Jf k hlt;have Jh:X<E.w0.heap.size:=b_ d0;have e0:=(H.base.cell (p:=⟨X,Y+k*3,none⟩) Jh).trans d0;have e1:=(H.base.cell (p:=⟨X,Y+k*3+1,none⟩) Jh).trans d1;have e2:=(H.base.cell (p:=⟨X,Y+k*3+2,none⟩) Jh).trans d2;have Xr:X<E.C:=l_ Jh H.low;have Jv:=ah Jx;have Jl:=ah Jm;have Js:Hid (Kf E.t.fc[k]):=Xi _ (g_ hlt);have Jk:Hid (Ji=bodiesE E.t k (E.t.fc[k]::E.t.fc.drop (k+1))):=(by show _=_;rw[Ja.o,jy _ _ hlt]);obtain⟨ap,cp,rfl,-⟩:=Jx;obtain⟨ab,cb,rfl,-⟩:=Jm;obtain⟨ng,Dg,-,⟨es,Jp,J_,-⟩,-⟩:=H.glob;simp only at J_;clear Jf d0 d1 d2 H Ja Jh;generalize E.t.fc[k]=f at e0 e1 e2 Jv Jl Js Jk;go_wp2_with fail;have⟨I,Jd⟩:=q_ ((((wr.setCell ⟨E.C,5,none⟩ (V (k:Int))).setCell ⟨E.C,6,none⟩ (V (-1))).alloc (.cells #[sV f.nm,.slice ap f.pm.length cp,.slice ab f.bd.length cb] 143)));have⟨M,O⟩:=q_ wr.heap.size;have Jg:Hid (Cs {E with gp:=g1} I [] [] Z Xd Jn (k:Int) (-1)):=by show Cs _ _ _ _ _ _ _ _ _;rw[Jd];exact((U.o.put 5 _ (U.o.box.s5 (k:Int))).put 6 _ ((U.o.box.s5 (k:Int)).s6 (-1))).below (aq _ _)
   have z4:=Jg.o.box.c4;have zf:=Jg.o.box.fz 4;have Jw:=Jg.o.ltC;simp only at z4 zf Jw;have Xp:M<I.heap.size:=(by rw[Jd,O];simp);have m0:Bo I M 0 (sV f.nm):=(by rw[Jd];exact(cell?_alloc_at _ _ _ _ (by simp[O])).trans rfl);have m1:Bo I M 1 (.slice ap f.pm.length cp):=(by rw[Jd];exact(cell?_alloc_at _ _ _ _ (by simp[O])).trans rfl);have m2:Bo I M 2 (.slice ab f.bd.length cb):=(by rw[Jd];exact(cell?_alloc_at _ _ _ _ (by simp[O])).trans rfl);have Xt:M≠E.C:=o_;obtain⟨ng,Dg,-,⟨Jr,Jb,Jc,-⟩,-⟩:=Jg.o.glob;simp only at Jc;rw[<-Jd,<-O];clear Jd O y4 y5 y6 f4 f5 f6 e0 e1 e2 J_;refine(Cu E.bg Jr Jb I Jc).mono ?_;rintro e w2 ⟨rfl,hw⟩;rw[hw];clear hw;have Xl:=ah Jc;clear Jc;go_wp2_with fail;have Xj:Hid (Cs E ((I.setCell ⟨E.C,4,none⟩ (.map (some I.heap.size))).alloc (.map Jr Jb)) [] [] Z I.heap.size [] (k:Int) (-1)):=by
    have:=Cs.fresh Jg.o Xl.o Xn Xb.o Jz.o HP.o
    rw[setCell_alloc_past _ _ _ _ Jw]at this;exact this
   obtain⟨k1,k2,k3,k4,k5,k6⟩:=Js;refine(Ct Xj Xb Jz HP o_ f _ _ Jv ⟨Jl,k1,k2,k3⟩ k4 k5 k6).mono ?_;rintro e w3 ⟨rfl,⟨v3,Xa,Jt,Jy,-⟩,-⟩;have Ju:=ah Jy;clear Jy k1 k2 k3 k4 k5 k6 z4 zf m0 m1 m2;by_cases hz:(fe E.t k f).1=0
   ·have J:Hid (Ji=bodiesE E.t (k+1) (E.t.fc.drop (k+1))):=by show _=_;rw[Jk.o,bodiesE,if_neg (by simp[hz])]
    rw[hz,dj];clear hz;go_wp2;go_roundw
    case rel=>exact⟨k+1,E.gp,v3,_,Xa,(k:Int),Jt,o_,by go_num,Ju,J⟩
    case measure=>exact D1
   have J:Hid (Ji=((fe E.t k f).1,(k:Int),(fe E.t k f).2.2)):=by show _=_;rw[Jk.o,bodiesE,if_pos hz];unfold fe at hz⊢;split;rfl;rename_i hd;rw[if_neg hd]at hz;split;rfl;rename_i hd2;rw[if_neg hd2]at hz;simp at hz
   have HZ:=ah hz;rw[bI hz];generalize (fe E.t k f).1=z1 at J HZ⊢;generalize (fe E.t k f).2.2=z2 at J⊢;clear hz;go_wp2;go_ret;exact⟨aC (by rw[J.o,bI HZ.o];rfl),E.gp,v3,_,Xa,_,Jt,Ju,λh=>absurd h (by rw[J.o];exact HZ)⟩
  have J:Hid (Ji=(0,-1,-1)):=by show _=_;have Xh:k=E.t.fc.length:=o_;rw[Ja.o,Xh,drop_length];rfl
  have Xk:=ah ((U.o.put 5 _ (U.o.box.s5 (-1))).put 6 _ ((U.o.box.s5 (-1)).s6 (-1)));clear H Ja;go_wp2;go_ret;exact⟨aC (by rw[J.o];rfl),g1,Z,Xd,Jn,-1,-1,Xk,λ_=>⟨rfl,rfl⟩⟩
end
section
variable{w:AT}
theorem ze{l:List Gl}{g:Gl}(h:fT (l.map (·.nm)) g.nm=false):oz (cP l) g.nm g.size=cP (l++[g]):=by
 funext s
 unfold oz cP;rw[find?_append];by_cases e:g.nm=s;have h2:l.find? (λx=>decide (x.nm=s))=none:=by
  rw[find?_eq_none];intro x H;simp only[K0];intro I;have h3:fT (l.map (·.nm)) g.nm=true:=by unfold fT;rw[any_eq_true];exact⟨x.nm,mem_map_of_mem H,by simp[I,e]⟩
  rw[h]at h3;cases h3
 rw[h2];simp[e];simp only[e,if_false];cases hf:l.find? (λx=>decide (x.nm=s))with
 | none=>simp[e]
 | some x=>simp
structure Pp (w0:AT) (C bn nn:Nat) (D:DataW Unit) (t:Tr) (vg vf:BY) (w:AT):Prop where
 c0:w.cell? ⟨C,0,none⟩=some nV
 c1:w.cell? ⟨C,1,none⟩=some vg
 c2:w.cell? ⟨C,2,none⟩=some vf
 c3:w.cell? ⟨C,3,none⟩=some (.map (some bn))
 c4:∃x,w.cell? ⟨C,4,none⟩=some x
 c5:w.cell? ⟨C,5,none⟩=some (V (-1))
 c6:w.cell? ⟨C,6,none⟩=some (V (-1))
 fz:∀o,w.frozen? ⟨C,o,none⟩=false
 low:w0.heap.size<=C
 base:Bl w0 w
 fun0:cF w0 vf t.fc/\dz w0 vg t.gl
 own:w.ownsMap prog 9 (plainElem (H:=Unit) prog 2) bn nn D
 num:cY D t.fc
 gt:C<bn
theorem E9{w0:World}{C bn nn:Nat}{D:DataW Unit}{t:Tr}{vg vf:Value}(h:Pp w0 C bn nn D t vg vf w):
  Calls prog 122 #[pV C] ((w.setCell ⟨C,4,none⟩ (.map (some w.heap.size))).alloc (.map #[] 0)) λe w'=>(∃u,e=rW u)/\∃v,
   Cs ⟨w0,C,w.heap.size+1,bn,nn,D,t,vg,vf,λ_=>none,λ_=>false,0⟩ w' [] [] v w.heap.size [] (-1) (-1):=by
 have X:C<w.heap.size:=b_ h.c0;have⟨x4,Jj⟩:=h.c4;have⟨W,J⟩:=q_ ((w.setCell ⟨C,4,none⟩ (.map (some w.heap.size))).alloc (.map #[] 0));have hs:W.heap.size=w.heap.size+1:=by rw[J];simp
 have Ja:∀o,o≠4->W.cell? ⟨C,o,none⟩=w.cell? ⟨C,o,none⟩:=λo U=>by rw[J,World.cell?_alloc_lt _ _ ⟨C,o,none⟩ (by simpa using X)];exact s_ _ _ _ _ (br (λe=>U e.symm))
 have h4:W.cell? ⟨C,4,none⟩=some (.map (some w.heap.size)):=by rw[J,World.cell?_alloc_lt _ _ ⟨C,4,none⟩ (by simpa using X)];exact World.cell?_setCell_same _ _ _ Jj
 have Jh:∀o,W.frozen? ⟨C,o,none⟩=false:=λo=>by rw[J,World.frozen?_alloc_past _ _ _ (by simpa using X)];simpa using h.fz o
 have Jg:∀b,b<w.heap.size->b≠C->W.heap[b]? =w.heap[b]? := λb I hne=>by rw[J,Below.heap_alloc _ _ _ (by simpa using I),Below.heap_setCell _ _ _ b hne]
 have Jc:Bl w0 W:=by rw[J];exact(h.base.setCell (p:=⟨C,4,none⟩) h.low _).alloc (by have:=h.base.size;simpa using this) _
 have Ji:W.ownsMap prog 9 (plainElem (H:=Unit) prog 2) w.heap.size 0 (.map []):=by
  have:=World.ownsMap_made (H:=Unit) (w.setCell ⟨C,4,none⟩ (.map (some w.heap.size))) prog 9 (plainElem (H:=Unit) prog 2)
  rw[<-J]at this;simpa using this
 have Jd:W.ownsMap prog 9 (plainElem (H:=Unit) prog 2) bn nn D:=aI h.own (Jg _ h.own.lt (by have:=h.gt;omega));rw[<-J];have Jf:kU (C+1) W nV []:=⟨i_,.inl ⟨rfl,rfl⟩⟩;refine(vR C (C+1) [] nV W o_ o_ ((Ja 0 d_).trans h.c0) (Jh 0) Jf i_).mono ?_;rintro e w' ⟨he,O,w1,rfl,Z,hm,Y,U⟩;rw[hs]at hm Z U;have Jb:∀b,b<W.heap.size->b≠C->(w1.setCell ⟨C,0,none⟩ O).heap[b]? =W.heap[b]? := λb I hne=>(Below.heap_setCell _ _ _ b hne).trans (Y.block b I (by simp[Value.ownBlock]));have Jk:w1.heap[C]? =W.heap[C]? := Y.block C o_ (by simp[Value.ownBlock]);have Je:jP W C nV vg vf bn w.heap.size (-1) (-1):=⟨(Ja 0 d_).trans h.c0,(Ja 1 d_).trans h.c1,(Ja 2 d_).trans h.c2,(Ja 3 d_).trans h.c3,h4,(Ja 5 d_).trans h.c5,(Ja 6 d_).trans h.c6,Jh⟩;have Jm:=h.own.lt;have Jl:=h.gt;refine⟨he,O,(Je.keep Jk).s0 O,h.low,(Jc.grown Y Jc.size (λk hk=>by simp[Value.ownBlock]at hk)).setCell (p:=⟨C,0,none⟩) h.low O,h.fun0,Z,rfl,i_,⟨0,_,n_,hm,dT.nil⟩,λj hj=>absurd hj i_,aI Jd (Jb _ (by show bn<_;omega) (by show bn≠C;omega)),h.num,⟨0,_,_,i_,aI Ji (Jb _ o_ o_),dT.nil,λs=>by simp[fT]⟩,?_,?_,?_⟩
 simp only[List.nodup_cons,List.mem_cons,not_or,List.not_mem_nil,not_false_eq_true,and_true];refine⟨⟨o_,o_⟩,o_,?_⟩;simp;intro b I;simp only[List.mem_cons,List.not_mem_nil,or_false]at I;show C<b;rcases I with rfl|rfl|rfl <;> omega
 intro x hx I;simp only[List.mem_cons,List.not_mem_nil,or_false]at I;rcases U x hx with q|q;simp[Value.ownBlock]at q;rcases I with rfl|rfl|rfl <;> omega
def oO.same(E:oO){f:IF->Option Int}{n:Nat}(h:f=E.gf)(h2:n=E.ng):{E with gf:=f,ng:=n}=E:=by subst h h2;rfl
theorem NL{M:Nat}{w':World}{t:TypeId}{h H:Value}(J:M=w.heap.size)(I:w'=w.alloc (.cells #[h,H] t)):w'.cell? ⟨M,0,none⟩=some h/\w'.cell? ⟨M,1,none⟩=some H:=by subst J I;simp
theorem Pq{E:oO}(h:Pp E.w0 E.C E.bn E.nn E.D E.t E.vg E.vf w)(Xm:E.bg=w.heap.size+1)(Jz:E.gf=λ_=>none)(J_:E.gp=λ_=>false)(Jy:E.ng=0)
  (Yc:E.t.gl.length<=1000) (Yf:E.t.fc.length<=1000) (Xo:∀g∈E.t.gl,g.nm.size<=9223372036854775807/\0<=g.size/\g.size<=4000) (Xn:∀f∈E.t.fc,f.nm.size<=9223372036854775807):
  Calls prog 76 #[pV E.C] w λe w'=>e=rW (fD (iT E.t).1 (iT E.t).2.1 (iT E.t).2.2) /\
   ∃gf' ng' v bt tk fn st,Cs {E with gf:=gf',ng:=ng'} w' [] [] v bt tk fn st/\((iT E.t).1=0->gf'=cP E.t.gl/\ng'<=1000/\fn= -1/\st= -1):=by
 have Xl:Hid (Calls prog 122 #[pV E.C] ((w.setCell ⟨E.C,4,none⟩ (.map (some w.heap.size))).alloc (.map #[] 0)) λe w'=>(∃u,e=rW u)/\∃v,Cs E w' [] [] v w.heap.size [] (-1) (-1)):=by
  have h1:=E9 h;have e:(⟨E.w0,E.C,w.heap.size+1,E.bn,E.nn,E.D,E.t,E.vg,E.vf,λ_=>none,λ_=>false,0⟩:oO)=E:=by rw[<-Xm,<-Jz,<-J_,<-Jy]
  rw[e]at h1;exact h1
 have Xh:=ah J_;have Xs:=ah Xo;have Xp:=ah Xn;have Jw:Hid (E.gf=cP []/\E.ng=0):=⟨by rw[Jz];rfl,Jy⟩;have⟨Jt,Jg⟩:=q_ (iT E.t);rw[<-Jg];have Jc:=ah Jg;have hC:E.C<w.heap.size:=b_ h.c0;have⟨x4,y4⟩:=h.c4;have f4:=h.fz 4;have Xw:= @run_makeMap prog;obtain⟨ag,cg,Xk,-,-,Jj⟩:=h.fun0.2;obtain⟨af,cf,Xb,-,-,Ji⟩:=h.fun0.1;have Xt:=ah Jj;have Yb:=ah Ji;have Xv:=ah Xk;have X_:=ah Xb;clear h Xm Jz J_ Jy Jg Jj Ji Xo Xn Xk Xb;go_in;go_wp2_with fail;refine Xl.out.mono ?_;rintro e w1 ⟨⟨u,rfl⟩,v,Jn⟩;have⟨bt,Xc⟩:=q_ w.heap.size;rw[<-Xc]at Jn⊢;have Xe:=ah Jn;have c1:=Jn.box.c1;rw[Xv.out]at c1;clear Jn y4 f4 hC Xw Xl Xc;go_wp2;go_loopw[23] (λj wr=>∃(k:Nat),k<=E.t.gl.length/\j=V k/\Cs {E with gf:=cP (E.t.gl.take k),ng:=k} wr [] [] v bt ((E.t.gl.take k).map (·.nm)) (-1) (-1)/\jw [] E.t.gl=jw ((E.t.gl.take k).map (·.nm)) (E.t.gl.drop k)) (λj _=>E.t.gl.length-(RowKit.intOf j).toNat)
 case atStart=>
  refine⟨0,y_,rfl,?_,i_⟩;have e:{E with gf:=cP (E.t.gl.take 0),ng:=0}=E:=by exact oO.same E (by rw[Jw.out.1];simp) Jw.out.2.symm
  rw[e];exact Xe
 case round=>
  clear Xe c1 Jw;obtain⟨k,hk,rfl,H,hd⟩:=hrel;have I:=ah H;have U:=ah hd;clear hd;by_cases hlt:k<E.t.gl.length
  ·obtain⟨b0,o0,rfl,Jj⟩:=Xt.out o_;have⟨Y,d1⟩:=Jj k hlt;have Jr:b0<E.w0.heap.size:=b_ Y;have O:=(H.base.cell (p:=⟨b0,o0+k*2,none⟩) Jr).trans Y;have J:=(H.base.cell (p:=⟨b0,o0+k*2+1,none⟩) Jr).trans d1;have⟨Xy,Xu,Xq⟩:=Xs.out _ (g_ hlt);have X:E.t.gl[k].nm.size<=maxLen:=(by unfold maxLen;omega);have Xa:Hid ((Lit.int .i64 E.t.gl[k].size).wf=true):=WalkArith.wf_i64 o_;have Jb:Hid (jw [] E.t.gl=jw ((E.t.gl.take k).map (·.nm)) (E.t.gl[k]::E.t.gl.drop (k+1))):=(by show _=_;rw[U.out,jy _ _ hlt]);have Jd:=ah (bP _ _ hlt);have Xx:((E.t.gl.take k).map (·.nm)).length<=1000:=(by simp;omega);have Ye:b0<wr.heap.size:=b_ O;clear Jj Y d1 H U Jr Xy Xu Xq;generalize E.t.gl[k]=p at O J X Xa Jb Jd;have⟨WA,Ja⟩:=q_ (wr.alloc (.cells #[sV p.nm,V p.size] 140));have⟨M,hM⟩:=q_ wr.heap.size;have Je:Hid (Cs {E with gf:=cP (E.t.gl.take k),ng:=k} WA [] [] v bt ((E.t.gl.take k).map (·.nm)) (-1) (-1)):=by show Cs _ _ _ _ _ _ _ _ _;rw[Ja];exact I.out.below (aq _ _)
   have⟨m0,m1⟩:=NL hM Ja;have Jv:M<WA.heap.size:=(by rw[Ja,hM];simp);have Xi:M≠bt:=(by have:=I.out.lt bt i_;omega);have Xf:M≠E.bg:=(by have:=I.out.lt E.bg i_;omega);cases hx:fT ((E.t.gl.take k).map (·.nm)) p.nm with
   | true=>
    have HE:Hid (Jt=(2,-1,-1)):=by show _=_;rw[Jc.out];unfold iT;rw[if_pos (by rw[Jb.out];exact D6 hx)]
    have Z:Hid (fT ((E.t.gl.take k).map (·.nm)) p.nm=true\/E.gp p.nm=true):=.inl hx;clear hx;go_wp2_with fail;rw[<-Ja];clear Ja hM O J;refine(oP Je.out X Z).mono ?_;rintro e w2 ⟨rfl,hw⟩;rw[hw,bI d_];clear hw;go_wp2;go_ret;exact⟨aC (by rw[HE.out];rfl),_,_,_,_,_,_,_,Je,λh=>absurd h (by rw[HE.out];show ¬(2:Int)=0;decide)⟩
   | false=>
    have Z:Hid (¬(fT ((E.t.gl.take k).map (·.nm)) p.nm=true\/E.gp p.nm=true)):=by show ¬(_\/_);rw[Xh.out,hx];simp
    have Jp:Hid (jw [] E.t.gl=jw ((E.t.gl.take (k+1)).map (·.nm)) (E.t.gl.drop (k+1))):=(by show _=_;rw[Jb.out,BA hx,Jd.out];simp);have Xz:Hid (oz (cP (E.t.gl.take k)) p.nm p.size=cP (E.t.gl.take (k+1))):=(by show _=_;rw[ze hx,Jd.out]);have Jl:Hid ((E.t.gl.take k).map (·.nm)++[p.nm]=(E.t.gl.take (k+1)).map (·.nm)):=(by show _=_;rw[Jd.out];simp);clear hx;go_wp2_with fail;rw[<-Ja];rw[<-hM];clear Ja hM O J;refine(oQ Je.out X o_ Z).mono ?_;rintro e w2 ⟨rfl,Jf,Jh⟩;rw[Jl.out]at Jf;have Jk:=ah (Jf.below (r_.drew));have x0:w2.cell? ⟨M,0,none⟩=some (sV p.nm):=(Jh.cell Jv Xi 0).trans m0;have x1:w2.cell? ⟨M,1,none⟩=some (V p.size):=(Jh.cell Jv Xi 1).trans m1;have Xj:M<w2.heap.size:=l_ Jv Jh.size;have Ya:Hid (Calls prog 124 #[pV E.C,sV p.nm,V p.size] w2.drew λe w'=>(∃u,e=rW u)/\Cs {E with gf:=cP (E.t.gl.take (k+1)),ng:=k+1} w' [] [] v bt ((E.t.gl.take (k+1)).map (·.nm)) (-1) (-1)/\aA (λj=>j=E.bg) w2.drew w'):=by
     have:=Po Jk.out X Xa.out (by show k<=_;omega)
     simp only[Xz.out]at this;exact this
    clear Jf Jh m0 m1;go_wp2_with fail;go_region_held3 (λW=>W.cell? ⟨M,0,none⟩=some (sV p.nm)/\W.cell? ⟨M,1,none⟩=some (V p.size)) (go_simp)
     (first
     | ((with_reducible refine Calls.mono Ya.out ?_);rintro e w3 ⟨⟨u3,rfl⟩,Xg,Jx⟩;have Jq:w3.cell? ⟨M,0,none⟩=some (.string p.nm):=(Jx.cell Xj Xf 0).trans x0;have Js:w3.cell? ⟨M,1,none⟩=some (.int .i64 p.size):=(Jx.cell Xj Xf 1).trans x1))
    have Xr:=ah Xg;clear Xg Jx x0 x1 Jq Js;go_wp2;go_roundw
    case rel=>exact⟨k+1,o_,by go_num,Xr,Jp⟩
    case measure=>simp[RowKit.intOf];omega
  have Jo:k=E.t.gl.length:=o_;subst Jo;have Xd:Hid (jw [] E.t.gl=false):=(by show _=_;rw[U.out];simp[jw]);have Ju:Hid (Cs {E with gf:=cP E.t.gl,ng:=E.t.gl.length} wr [] [] v bt (E.t.gl.map (·.nm)) (-1) (-1)):=by
   have:=I.out
   rw[List.take_length]at this;exact this
  have c2:=Ju.out.box.c2;simp only at c2;rw[X_.out]at c2;clear I U H;go_wp2;go_loopw[49] (λj w2=>∃(k:Nat) (fn':Int),k<=E.t.fc.length/\j=V k/\Cs {E with gf:=cP E.t.gl,ng:=E.t.gl.length} w2 [] [] v bt (E.t.gl.map (·.nm)++(E.t.fc.take k).map (·.nm)) fn' (-1)/\j0 (E.t.gl.map (·.nm)) 0 E.t.fc=j0 (E.t.gl.map (·.nm)++(E.t.fc.take k).map (·.nm)) k (E.t.fc.drop k)) (λj _=>E.t.fc.length-(RowKit.intOf j).toNat)
  case atStart=>exact⟨0,-1,y_,rfl,by simpa using Ju.out,i_⟩
  case round=>
   clear Ju c2;obtain⟨k,Yd,hk,rfl,H,hd⟩:=hrel;have I:=ah H;have U:=ah hd;have y5:=H.box.c5;have f5:=H.box.fz 5;have hC:=H.ltC;simp only at y5 f5 hC;clear hd;by_cases hlt:k<E.t.fc.length
   ·obtain⟨bf,of,rfl,Ji⟩:=Yb.out o_;obtain⟨vp,vb,⟨Y,d1,d2⟩,⟨ap,cp,rfl,-⟩,⟨ab,cb,rfl,-⟩⟩:=Ji k hlt;have Jm:bf<E.w0.heap.size:=b_ Y;have O:=(H.base.cell (p:=⟨bf,of+k*3,none⟩) Jm).trans Y;have J:=(H.base.cell (p:=⟨bf,of+k*3+1,none⟩) Jm).trans d1;have e2:=(H.base.cell (p:=⟨bf,of+k*3+2,none⟩) Jm).trans d2;have X:E.t.fc[k].nm.size<=maxLen:=(by have:=Xp.out _ (g_ hlt);unfold maxLen;omega);have Jb:Hid (j0 (E.t.gl.map (·.nm)) 0 E.t.fc=j0 (E.t.gl.map (·.nm)++(E.t.fc.take k).map (·.nm)) k (E.t.fc[k]::E.t.fc.drop (k+1))):=(by show _=_;rw[U.out,jy _ _ hlt]);have Jd:=ah (bP _ _ hlt);have Xx:(E.t.gl.map (·.nm)++(E.t.fc.take k).map (·.nm)).length<=2000:=(by simp;omega);clear Ji Y d1 d2 H U Jm;generalize E.t.fc[k]=f at O J e2 X Jb Jd;have⟨WA,Ja⟩:=q_ ((wr.setCell ⟨E.C,5,none⟩ (V (k:Int))).alloc (.cells #[sV f.nm,.slice ap f.pm.length cp,.slice ab f.bd.length cb] 143));have Je:Hid (Cs {E with gf:=cP E.t.gl,ng:=E.t.gl.length} WA [] [] v bt (E.t.gl.map (·.nm)++(E.t.fc.take k).map (·.nm)) (k:Int) (-1)):=by show Cs _ _ _ _ _ _ _ _ _;rw[Ja];exact(I.out.put 5 _ (I.out.box.s5 (k:Int))).below (aq _ _)
    cases hx:fT (E.t.gl.map (·.nm)++(E.t.fc.take k).map (·.nm)) f.nm with
    | true=>
     have HE:Hid (Jt=(2,(k:Int),-1)):=by show _=_;rw[Jc.out];unfold iT;rw[if_neg (by rw[Xd.out];simp),Jb.out,D7 hx]
     have Z:Hid (fT (E.t.gl.map (·.nm)++(E.t.fc.take k).map (·.nm)) f.nm=true\/E.gp f.nm=true):=.inl hx;clear hx;go_wp2_with fail;rw[<-Ja];clear Ja O J e2;refine(oP Je.out X Z).mono ?_;rintro e w2 ⟨rfl,hw⟩;rw[hw,bI d_];clear hw;go_wp2;go_ret;exact⟨aC (by rw[HE.out];rfl),_,_,_,_,_,_,_,Je,λh=>absurd h (by rw[HE.out];show ¬(2:Int)=0;decide)⟩
    | false=>
     have Z:Hid (¬(fT (E.t.gl.map (·.nm)++(E.t.fc.take k).map (·.nm)) f.nm=true\/E.gp f.nm=true)):=by show ¬(_\/_);rw[Xh.out,hx];simp
     have Jl:Hid (E.t.gl.map (·.nm)++(E.t.fc.take k).map (·.nm)++[f.nm]=E.t.gl.map (·.nm)++(E.t.fc.take (k+1)).map (·.nm)):=(by show _=_;rw[Jd.out];simp);have Jp:Hid (j0 (E.t.gl.map (·.nm)) 0 E.t.fc=j0 (E.t.gl.map (·.nm)++(E.t.fc.take (k+1)).map (·.nm)) ((k+1:Nat):Int) (E.t.fc.drop (k+1))):=(by show _=_;rw[Jb.out,BB hx,Jl.out];simp);clear hx;go_wp2_with fail;rw[<-Ja];clear Ja O J e2;refine(oQ Je.out X o_ Z).mono ?_;rintro e w2 ⟨rfl,Jf,Jh⟩;rw[Jl.out]at Jf;have Jk:=ah Jf;clear Jf Jh;go_wp2;go_roundw
     case rel=>exact⟨k+1,(k:Int),o_,by go_num,Jk,Jp⟩
     case measure=>simp[RowKit.intOf];omega
   have HN:Hid (Jt=(0,-1,-1)):=by show _=_;have Jo:k=E.t.fc.length:=o_;have J:j0 (E.t.gl.map (·.nm)) 0 E.t.fc=none:=(by rw[U.out,Jo,List.drop_length];rfl);rw[Jc.out];unfold iT;rw[if_neg (by rw[Xd.out];simp),J]
   have Jk:=ah (I.out.put 5 _ (I.out.box.s5 (-1)));clear H;go_wp2;go_ret;exact⟨aC (by rw[HN.out];rfl),_,_,_,_,_,_,_,Jk,λ_=>⟨rfl,Yc,rfl,rfl⟩⟩
end
section
variable{w:AT}{v:BY}
def Ints.set{l:List Int}{g:Nat}(h:Ints w v l)(Jb:v.ownBlock≠some g)(o:Nat)(u:BY):Ints (w.setCell ⟨g,o,none⟩ u) v l:=by obtain⟨a,Ja,rfl,h3⟩:=h;refine⟨a,Ja,rfl,λh0=>?_⟩;obtain⟨b,rfl,I⟩:=h3 h0;have H:b≠g:=λe=>Jb (by simp[ownBlock,e]);refine⟨b,rfl,λj hj=>?_⟩;rw[s_ _ _ _ _ (by intro h;simp only[Addr.mk.injEq]at h;exact H h.1.symm)];exact I j hj
def iG(fs:List Fu)(j:Nat):List Int:=(callsL fs (fs.getD j ⟨⟨#[]⟩,[],[]⟩).bd).map (λg:Nat=>(g:Int))
def mr(w:AT)(v:BY)(fs:List Fu):Prop:=∃G cap,v=rV G fs.length cap/\∀j,j<fs.length->∃vj,w.cell? ⟨G,j,none⟩=some vj/\Ints w vj (iG fs j)
def mr.below{w':AT}{I:List Fu}(h:mr w v I)(J:Bl w w'):mr w' v I:=by obtain⟨G,Ja,rfl,h⟩:=h;refine⟨G,Ja,rfl,λj hj=>?_⟩;have⟨O,H,h2⟩:=h j hj;exact⟨O,(J.cell (p:=⟨G,j,none⟩) (b_ H)).trans H,h2.below J⟩
def IK:(prog.info? 29).map (λi=>(i.zero,i.size,i.bytes))=some (some nV,1,24):=by kernel_rfl
theorem m7(I:List Fu)(vg vf:Value)(w:World)(hl:I.length<=1000)(hg:∃a n c,vg=.slice a n c)(hw:Bp I)(Xe:∀f∈I,iP f)(hf:cF w vf I):
  Calls prog 88 #[.agg #[vg,vf]] w λe w'=>∃v,e=rW v/\mr w' v I/\Below w.heap.size w w':=by
 obtain⟨ag,ng,cg,rfl⟩:=hg;have HF:=ah hf;obtain⟨af,Y,rfl,-,-,Jg⟩:=hf;have⟨Xx,HW,Xq⟩:=h3 Jg hw Xe;have⟨i0,hi,Xi,Xt,Xn⟩:=info_parts IK;clear Jg hw Xe;go_in;go_wp2_with fail;have hA:Bl w (w.alloc (.cells #[.slice ag ng cg,.slice af I.length Y] 63)):=aq _ _;refine(jj I _ _ _ o_ HW (HF.out.below hA)).mono ?_;rintro e w1 ⟨bn,D,rfl,Xw,Jk,hN,Jf⟩;simp only[Bl,World.size_alloc]at Jf Xw;have⟨x0,x1⟩:=wd Jf;have⟨Xd,HN⟩:=h2 Jk hN;have Xy:Bl w w1:=aR Jf;have Ji:=Jf.size;simp only[Bl,World.size_alloc]at Ji;clear Jk hN;go_wp2_with(at_make;refine wpList_make_full _ rfl _ _ 225 rfl w1.heap.size 29 i0 nV 1 underlying225 hi Xi Xt _ _ _ _ I.length rfl rfl o_ o_ ?_ ?_ n_ ?_);rw[Xn];omega;unfold maxLen;omega;intro w2 Jc Jb;have Jo:Bl w1 w2:=r_.grown Jb n_ i_;have Jd:Below (w.heap.size+1) (w.alloc (.cells #[.slice ag ng cg,.slice af I.length Y] 63)) w2:=Jf.trans (Jo.mono Ji);have Xc:=ah (dM Xd Jo);have Jj:∃xs,w2.ownsRow w1.heap.size 29 1 (rV w1.heap.size I.length I.length) I.length xs:=⟨_,Jc⟩;obtain⟨Xj,Jj⟩:=Jj;have Jn:=ah Jj;have U:w1.heap.size<w2.heap.size:=(World.ownsRow.lt Jj w1.heap.size rfl).2;have⟨G,Xb⟩:=q_ w1.heap.size;rw[<-Xb]at Jn U⊢;have Xs:w.heap.size+1<=G:=o_;have Jm:bn<G:=by have:=Xd.out.lt;omega
 clear Jc Jb Jj x0 x1;have⟨x0,x1⟩:=wd Jd;clear Jf Jo Xb;go_wp2;go_loopw[16] (λi wr=>∃(k:Nat) (xs:List Value),k<=I.length/\i=V k/\wr.ownsRow G 29 1 (rV G I.length I.length) I.length xs/\(∀j,j<k->∃J,xs[j]? =some J/\Ints wr J (iG I j)/\J.ownBlock≠some G)/\wr.ownsMap prog 9 (plainElem (H:=Unit) prog 2) bn I.length D/\bn<G/\G<wr.heap.size/\Below (w.heap.size+1) (w.alloc (.cells #[.slice ag ng cg,.slice af I.length Y] 63)) wr) (λi _=>I.length-(RowKit.intOf i).toNat)
 case atStart=>exact⟨0,Xj,y_,rfl,Jn,λj hj=>absurd hj o_,Xc,Jm,U,Jd⟩
 case round=>
  clear Xc Jn U Jd x0 x1;obtain⟨k,xs,hk,rfl,hR,hX,hM,Xu,U,Z⟩:=hrel;have⟨HR,HX,HM⟩:=h3 hR hX hM;have Jy:=aR Z;clear hR hX hM;by_cases hlt:k<I.length
  ·obtain⟨bf,of,rfl,Jg⟩:=Xx o_;have⟨vp,vb,⟨d0,d1,d2⟩,Jz,Jr⟩:=(Jg.below Jy) k hlt;have Xz:bf<wr.heap.size:=b_ d0;have⟨Jx,Jq⟩:=h2 Jz Jr;have J_:Hid (iP I[k]):=Xq _ (g_ hlt);have Jt:Hid (G0 I[k]):=HW.out.2 _ (g_ hlt);have Jv:Hid (iG I k=(callsL I I[k].bd).map (λg:Nat=>(g:Int))):=(by show _=_;unfold iG;simp[List.getD,hlt]);obtain⟨ap,cp,rfl,-⟩:=Jz;obtain⟨ab,cb,rfl,-⟩:=Jr;clear Jg;generalize I[k]=f at d0 d1 d2 Jx Jq J_ Jt Jv;have Je:Bl wr (wr.alloc (.cells #[sV f.nm,.slice ap f.pm.length cp,.slice ab f.bd.length cb] 143)):=aq _ _;go_wp2_with fail;refine(wD I f _ _ bn I.length D _ o_ J_ Jt (Jx.out.below Je) (Jq.out.below Je) (dM HM Je) HN).mono ?_;rintro e w3 ⟨O,rfl,Jl,Xa⟩;have Ja:Bl wr w3:=Je.trans (Xa.mono Je.size);have Xp:Hid (Ints w3 O (iG I k)):=by show Ints _ _ _;rw[Jv.out];exact iY.ints (B:=_) Jl
   have Js:Hid (O.ownBlock≠some G):=λh=>by
    have:=(World.ownsRow.lt Jl G h).1
    simp at this;omega
   have⟨Jp,Xv⟩:=h2 (ownB HR Ja) (dM HM Ja);have Xl:Hid (∀j,j<k->∃J,xs[j]? =some J/\Ints w3 J (iG I j)/\J.ownBlock≠some G):=λj hj=>by have⟨J,X,h2,h3⟩:=HX j hj;exact⟨J,X,h2.below Ja,h3⟩
   have Jw:=Z.size;simp only[Bl,World.size_alloc]at Jw;have Xh:Below (w.heap.size+1) (w.alloc (.cells #[.slice ag ng cg,.slice (some ⟨bf,of,none⟩) I.length Y] 63)) w3:=Z.trans (Ja.mono Jw);have Xk:G<w3.heap.size:=l_ U Ja.size;have Ju:xs.length=I.length:=(by have:=HR.out.1;omega);have g0:w3.cell? ⟨G,k,none⟩=some (xs[k]'(by omega)):=by
    have:=World.ownsRow.cellAt Jp.out k o_
    rw[this];simp[Ju,hlt]
   have gf:=World.ownsRow.frozenAt Jp k;have⟨y,hy⟩:=q_ (xs[k]'(by omega));rw[<-hy]at g0;have⟨a3,c3,Xo⟩:=iY.shape (B:=_) Jl;clear Jl Xa Ja d0 d1 d2 hy HR HX HM Je;have Xg:=ah ((World.ownsRow.stored Jp k O).1);have Xr:Hid (∀j,j<k+1->∃J,(xs.set k O)[j]? =some J/\Ints (w3.setCell ⟨G,k,none⟩ O) J (iG I j)/\J.ownBlock≠some G):=λj hj=>by
    by_cases e:j=k;subst e;exact⟨O,by simp[Ju,hlt],Xp.out.set Js _ _,Js⟩
    have⟨J,X,h2,h3⟩:=Xl j o_;exact⟨J,by rw[List.getElem?_set_ne (λh=>e h.symm)];exact X,h2.set h3 _ _,h3⟩
   have Xm:Hid ((w3.setCell ⟨G,k,none⟩ O).ownsMap prog 9 (plainElem (H:=Unit) prog 2) bn I.length D):=by obtain⟨es,Jh,h0,F,hs,hD⟩:=Xv;exact⟨es,Jh,(Below.heap_setCell _ _ _ bn (λh=>by simp at h;omega)).trans h0,F,hs,hD⟩
   subst Xo;go_wp2;go_roundw
   case rel=>exact⟨k+1,_,o_,by go_num,Xg,Xr,Xm,Xu,by simpa using Xk,Xh.setCell (p:=⟨G,k,none⟩) Xs _⟩
   case measure=>simp[RowKit.intOf];omega
  have Xf:k=I.length:=o_;subst Xf;clear Z;go_wp2;go_ret;refine⟨_,rfl,⟨G,I.length,rfl,λj hj=>?_⟩,Jy⟩;obtain⟨J,X,h2,-⟩:=HX j hj;exact⟨J,(World.ownsRow.cellAt HR j o_).trans X,h2⟩
end
section
variable{B:Nat}{w:AT}{v:BY}{l:List Nat}
def Lr(n:Nat):tl n []=List.replicate n (.bool false):=by apply ext_getElem;simp[tl];intro i h h2;simp[tl]
theorem iY.cut{x:Nat}(h:iY B w v (l++[x])):∃g cap,v=rV g (l.length+1) cap/\B<=g/\l.length+1<=cap/\cap<=maxLen/\w.cell? ⟨g,l.length,none⟩=some (V (x:Int))/\iY B w (rV g l.length cap) l:=by
 have Z:=h;obtain⟨Y,X⟩:=h;rcases X with⟨_,hz⟩|⟨g,cap,Ja,rfl,O,U,I,H,g7,J⟩;simp at hz;simp only[l_a,l_c,l_n,Nat.zero_add,Nat.mul_one,List.map_append,List.map_cons,List.map_nil]at Y I g7 J;refine⟨g,cap,i_,O,I,H,?_,i_,.inr ⟨g,cap,Ja,rfl,O,U,o_,H,o_,?_⟩⟩
 have:=World.ownsRow.cellAt Z l.length i_
 rw[this];simp;rw[Nat.mul_one];have e:Ja.toList.take l.length=(Ja.toList.take (l.length+1)).take l.length:=(by rw[List.take_take];congr 1;omega);rw[e,J];simp
def Fm(W:AT)(B:Nat)(hB:B<=W.heap.size)(x:Nat):iY B (W.alloc (.cells #[V (x:Int)] 2)) (rV W.heap.size 1 1) [x]:=ownsRow_lit W #[V (x:Int)] 1 hB d_ rfl
def iY.set{g o:Nat}{u:BY}(h:iY B w v l)(X:g<B):iY B (w.setCell ⟨g,o,none⟩ u) v l:=by obtain⟨O,H⟩:=h;refine⟨O,?_⟩;rcases H with H|⟨b,Jb,Ja,rfl,U,I,J⟩;exact .inl H;refine .inr ⟨b,Jb,Ja,rfl,U,?_,J⟩;rw[Below.heap_setCell _ _ _ b (λh=>by simp at h;omega)];exact I
theorem kg(t:Tr)(Xj:Value)(f:Nat)(w:World)(hf:f<t.fc.length)(hl:t.fc.length<=1000)(Y:mr w Xj t.fc):
  Calls prog 94 #[Xj,V (f:Int)] w λe w'=>∃v out,e=rW v/\kQ w.heap.size w' v t.fc.length out/\(∀g,g∈out↔gL t f g)/\Below w.heap.size w w':=by
 obtain⟨G,Yk,rfl,Xa⟩:=Y;have HG:=ah Xa;have⟨i0,hi,Xq,Yc,Xw⟩:=info_parts CH;have⟨i1,hj,X_,Xm,Xr⟩:=info_parts wH;clear Xa;have⟨n,hn⟩:=q_ t.fc.length;rw[<-hn]at hf hl HG⊢;have X:=ah hn;clear hn;go_in;go_wp2_with(at_make;refine wpList_make_full _ rfl _ _ 233 rfl w.heap.size 4 i0 (.bool false) 1 underlying233 hi Xq Yc _ _ _ _ n rfl rfl o_ o_ ?_ ?_ n_ ?_);rw[Xw];omega;unfold maxLen;omega;intro w1 Jf Je;have Jw:Bl w w1:=r_.grown Je n_ i_;have Jg:Hid (kQ w.heap.size w1 (rV w.heap.size n n) n []):=by show World.ownsRow _ _ _ _ _ _ _;rw[Lr,<-toList_madeCells_one];exact Jf
 have Jq:w.heap.size<w1.heap.size:=(World.ownsRow.lt Jf w.heap.size rfl).2;have⟨F,hF⟩:=q_ w.heap.size;rw[<-hF]at Jg Jq⊢;have Jo:=ah hF;clear Jf Je hF;go_wp2_with fail;have J_:=ah (Fm w1 _ Jq f);have Xb:Hid (kQ F (w1.alloc (.cells #[V (f:Int)] 2)) (rV F n n) n []):=Jg.out.below (aq _ _);have Jx:Bl w (w1.alloc (.cells #[V (f:Int)] 2)):=Jw.alloc Jw.size _;go_loopg[6] (n+1) (λgk lv wr=>∃(out Jd:List Nat),gk=(n-out.length)+Jd.length/\gk<=n+1/\RInv t f out Jd/\kQ F wr (rV F n n) n out/\iY (F+1) wr lv Jd/\F<wr.heap.size/\Bl w wr)
 case atStart=>exact⟨[],[f],i_,n_,RInv.start t f,Xb,J_,by simp;omega,Jx⟩
 case round=>
  clear J_ Jg Xb Jx Jw Jq;obtain⟨out,Jd,Jk,Yf,Z,H,O,Ji,I⟩:=hrel;rcases List.eq_nil_or_concat Jd with rfl|⟨Jc,x,rfl⟩
  ·have HE:Hid (∀g,g∈out↔gL t f g):=λg=>Z.all g;have J:=ah H;obtain⟨a6,c6,rfl⟩:=O.shape;simp only[l_n];clear H O Z;go_wp2;go_ret;exact⟨_,out,rfl,by rw[<-Jo.out];exact J,HE,I⟩
  simp only[List.concat_eq_append]at Jk Z O;have Xe:x<n:=(by have:=Z.lt (by rw[<-X.out];exact hf) x i_;rw[X.out];exact this);have U:Hid (j1 t f x [] out Jc):=Z.take i_ (λy=>by simp[or_comm]);obtain⟨g6,c6,rfl,Yi,Xp,Xs,q6,Xf⟩:=O.cut;have Jz:=ah Xf;have J:=ah H;have⟨vx,qx,Xk⟩:=HG x Xe;have Ya:=(I.cell (p:=⟨G,x,none⟩) (b_ qx)).trans qx;have⟨L,hL⟩:=q_ (callsL t.fc (t.fc.getD x ⟨⟨#[]⟩,[],[]⟩).bd);have HL:Hid (∀y,gu t x y↔y∈L):=λy=>by rw[hL];unfold gu;exact⟨λh=>h.2,λh=>⟨by rw[<-X.out];exact Xe,h⟩⟩
  have Xc:Hid (iG t.fc x=L.map (λg:Nat=>(g:Int))):=(by show _=_;rw[hL];rfl);obtain⟨ax,cx,Jy,Xi⟩:=Xk;have Jh:(iG t.fc x).length=L.length:=(by rw[Xc.out];simp);rw[Jh]at Jy;subst Jy;have Xy:Hid (0<L.length->∃b,ax=some ⟨b,0,none⟩/\∀j (h:j<L.length),w.cell? ⟨b,j,none⟩=some (V (L[j]:Int))):=λh0=>by obtain⟨b,rfl,hc⟩:=Xi o_;refine⟨b,rfl,λj hj=>?_⟩;have:=hc j o_;rw[this];simp[Xc.out]
  have Yg:L.length<=1000:=by
   have h1:L.Nodup:=by rw[hL];unfold callsL;exact List.Pairwise.filter _ (List.nodup_range)
   have h2:=uZ n h1 (λy hy=>by have:=((HL.out y).2 hy).lt;rw[X.out];exact this);omega
  have Yh:Jc.length<=2000:=(by simp at Jk;omega);have Xu:(n-out.length)+Jc.length+1=gk:=(by simp at Jk;omega);have Xt:∀W:World,(Instr.slice 29 (rV g6 (Jc.length+1) c6) none (some (V (Jc.length:Int))) none).run prog W=.ok (rV g6 Jc.length c6) W:=by intro W;have hz:prog.elem 29=2:=k_;have hs:(sizeOf 2).run prog W=.ok 1 W:=k_;rw[run_slice_h W 29 (some ⟨g6,0,none⟩) (Jc.length+1) c6 (by rw[hz];exact underlying29) .i64 _ o_ o_,hz,hs];simp[Result.andThen,sliced,Addr.add]
  have Xn:=U.out.len;rw[<-X.out]at Xn;clear Z H O Xf Xi Jh hL Jk qx;go_wp2;go_loopw[6,34] (λlv i w4=>∃(j:Nat) (Jb Ja:List Nat),j<=L.length/\i=V j/\j1 t f x (L.take j) Jb Ja/\kQ F w4 (rV F n n) n Jb/\iY (F+1) w4 lv Ja/\Jb.length+Jc.length=out.length+Ja.length/\F<w4.heap.size/\Bl w w4) (λ_ i _=>L.length-(RowKit.intOf i).toNat)
  case atStart=>exact⟨0,out,Jc,y_,rfl,by simpa using U.out,J.out,Jz.out,rfl,Ji,I⟩
  case round=>
   clear U Jz J q6 Ya I Ji Xt;obtain⟨j,Jb,Ja,Yl,rfl,hM,H,O,Xo,Ji,I⟩:=hrel;have U:=ah hM;have J:=ah H;have Ju:=hM.len;rw[<-X.out]at Ju;obtain⟨a6,c7,rfl⟩:=O.shape;have HW:Hid (iY (F+1) wr (.slice a6 Ja.length c7) Ja):=O;clear hM O;by_cases hjl:j<L.length
   ·obtain⟨bx,rfl,Jn⟩:=Xy o_;have d0:=(I.cell (p:=⟨bx,j,none⟩) (b_ (Jn j hjl))).trans (Jn j hjl);have Jg:Hid (L.take (j+1)=L.take j++[L[j]]):=bP L j hjl;have Jv:gu t x L[j]:=(HL _).2 (g_ hjl);have Jt:L[j]<n:=(by have:=Jv.lt;rw[X.out];exact this);have Xh:=ah Jv;clear Jn Jv;generalize L[j]=y at d0 Jg Jt Xh;have⟨t0,tf⟩:=H.cell y Jt;clear H;by_cases hy:y∈Jb
    ·rw[decide_eq_true hy]at t0;have Jr:Hid (j1 t f x (L.take (j+1)) Jb Ja):=(by show j1 _ _ _ _ _ _;rw[Jg.out];exact U.out.old hy);clear hy;go_wp2;go_roundw
     case rel=>exact⟨j+1,Jb,Ja,o_,by go_num,Jr,J,HW,Xo,Ji,I⟩
     case measure=>simp[RowKit.intOf];omega
    rw[decide_eq_false hy]at t0;have Jr:Hid (j1 t f x (L.take (j+1)) (Jb++[y]) (Ja++[y])):=(by show j1 _ _ _ _ _ _;rw[Jg.out];exact U.out.new hy Xh);have Yb:=ah (J.out.put y Jt);have Xd:Hid (iY (F+1) (wr.setCell ⟨F,y,none⟩ (.bool true)) (.slice a6 Ja.length c7) Ja):=HW.out.set (Nat.lt_succ_self _);have Jp:Bl w (wr.setCell ⟨F,y,none⟩ (.bool true)):=I.setCell (p:=⟨F,y,none⟩) (by rw[Jo.out];exact n_) _;have Xz:(wr.setCell ⟨F,y,none⟩ (.bool true)).heap.size=wr.heap.size:=i_;have Yj:Ja.length<=2000:=o_;clear hy;go_wp2_with(at_builtin;refine dY rfl _ _ _ rfl (F+1) 2 i1 _ 1 8 underlying29 hj X_ Xm Xr rfl d_ _ Ja.length (Ja.map (λg:Nat=>Value.int .i64 (g:Int))) rfl (Xd.out.below (aq _ _)) ⟨wr.heap.size,0,none⟩ 1 1 [V (y:Int)] rfl rfl (by rw[<-Xz];exact cell_one_new _ _ _) (by simp[Value.oneCell']) o_ d_ (by simp;omega) ?_);intro v9 w9 Xg Jl Xl;have Jm:Hid (iY (F+1) w9 v9 (Ja++[y])):=by show World.ownsRow _ _ _ _ _ _ _;simpa using Xg
    have Jj:∀g,(Value.slice a6 Ja.length c7).ownBlock=some g->F+1<=g:=λg Y=>(World.ownsRow.lt Xd g Y).1;have Xv:=ah (Ik (Yb.out.below (aq _ _)) Jl (λg Y h=>by simp only[Value.ownBlock,Option.some.injEq]at Y;have:=Jj g h;omega));have Ye:Bl w w9:=(Jp.alloc Jp.size _).grown Jl (by have:=Jp.size;simp;simp at this;omega) (λg Y=>by have:=Jj g Y;have:=Jo.out;omega);have Xx:F<w9.heap.size:=(by have:=Jl.size;simp at this;omega);obtain⟨a9,c9,rfl⟩:=Jm.out.shape;have Js:(Ja++[y]).length=Ja.length+1:=i_;rw[Js]at Jm⊢;clear Xg Jl Xl d0 t0 tf HW J U;go_wp2;go_roundw
    case rel=>exact⟨j+1,Jb++[y],Ja++[y],o_,by go_num,Jr,Xv,Jm,by simp;omega,Xx,Ye⟩
    case measure=>simp[RowKit.intOf];omega
   have Yd:Hid (RInv t f Jb Ja):=by have h1:=U;rw[List.take_of_length_le o_]at h1;exact h1.done (λy hy=>(HL y).1 hy)
   clear H;go_wp2;go_roundg ((n-Jb.length)+Ja.length)
   case measure=>omega
   case rel=>exact⟨Jb,Ja,rfl,o_,Yd,J,HW,Ji,I⟩
end
def sN{W:AT}{b nn:Nat}{D:DataW Unit}{J:List Fu}(Jb:W.ownsMap prog 9 (plainElem (H:=Unit) prog 2) b nn D)(U:cY D J){s:IF}(O:s.size<=maxLen){i:Nat}(h:bU J s=some i):
  (Instr.lookup 131 (.map (some b)) (sV s) false).run prog W=.ok (V (i:Int)) W:=by
 have⟨c,Ja,I,_⟩:=Jb.lookup_int (Maps.string_keyed underlying9) underlying131 underlying2 (zeroValue2 _) (WideMaps.keyOf_string_mk underlying9 O);rw[U.val s i h]at I;simp only[DataW.lit.injEq,Lit.int.injEq,true_and]at I;subst I;exact Ja
def Fo{E:oO}{w:AT}{v:BY}{X:Nat}{tk:List IF}(h:Cs E w [] [] v X tk (-1) (-1))(m:Nat)(hm:bU E.t.fc mainS=some m)(Jr:E.t.fc.length<=1000)(U:Bp E.t.fc)(Xj:∀f∈E.t.fc,iP f):
  Calls prog 79 #[pV E.C] w λe w'=>e=rW (fD (dK E.t m 0 E.t.fc.length).1 (dK E.t m 0 E.t.fc.length).2.1 (dK E.t m 0 E.t.fc.length).2.2)/\Below E.w0.heap.size E.w0 w':=by
 have HC:=ah h;have⟨Jd,Jj⟩:=q_ (dK E.t m 0 E.t.fc.length);rw[<-Jj];have Jb:=ah Jj;have Xe:=jv hm;have Xb:=ah hm;have J_:mainS.size<=maxLen:=by unfold maxLen;decide
 obtain⟨af,cf,Js,-⟩:=h.fun0.1;obtain⟨ag,cg,Xg,-⟩:=h.fun0.2;have c1:=h.box.c1;have c2:=h.box.c2;have c3:=h.box.c3;have J:=h.ltC;rw[Xg]at c1;rw[Js]at c2;have Xc:Hid (cF w (.slice af E.t.fc.length cf) E.t.fc):=by have:=h.fun0.1.below h.base;rw[Js]at this;exact this
 have⟨HW,Xi⟩:=h2 U Xj;go_in;go_wp2_with fail;refine(m7 E.t.fc _ _ _ Jr ⟨_,_,_,rfl⟩ HW Xi Xc).mono ?_;rintro e w1 ⟨Xk,rfl,Jt,Jy⟩;have Jm:Hid (Cs E w1 [] [] v X tk (-1) (-1)):=HC.o.below Jy;have Z:=ah Jt;have d3:=(Jy.cell (p:=⟨E.C,3,none⟩) J).trans c3;have Jz:(Instr.lookup 131 (.map (some E.bn)) (sV ⟨#[109,97,105,110]⟩) false).run prog w1=_:=sN Jm.o.own Jm.o.num J_ Xb;obtain⟨G,Xd,rfl,-⟩:=Jt;go_wp2_with fail;refine(kg E.t _ m w1 Xe Jr Z).mono ?_;rintro e w2 ⟨v2,out,rfl,Ju,Jp,Jw⟩;have Xf:Hid (Cs E w2 [] [] v X tk (-1) (-1)):=Jm.o.below Jw;have⟨Xa,Xh,Jk⟩:=h3 (Z.o.below Jw) Ju Jp;obtain⟨g5,c5,rfl,-,Xl⟩:=Ju.form o_;go_wp2;go_loopw[23] (λj wr=>∃(k:Nat),k<=E.t.fc.length/\j=V k/\Jd=dK E.t m k (E.t.fc.length-k)/\Bl w2 wr) (λj _=>E.t.fc.length-(RowKit.intOf j).toNat)
 case atStart=>exact⟨0,y_,rfl,D4 Jb.o,r_⟩
 case round=>
  obtain⟨k,hk,rfl,Jo,H⟩:=hrel;have Jb:=ah Jo;have Jl:=Xf.o.below H;have Jn:=ah Jl;have y5:=Jl.box.c5;have f5:=Jl.box.fz 5;have J:=Jl.ltC;by_cases hlt:k<E.t.fc.length
  ·have Jh:Hid (Jd=dK E.t m k ((E.t.fc.length-(k+1))+1)):=by show _=_;rw[Jb.o];congr 1;omega
   have t0:=((Xh.o.below H).cell k hlt).1;have Jv:=ah (kg E.t _ k wr hlt Jr (Xa.o.below H));by_cases hkm:k=m
   ·subst hkm;have b1:((k:Int) == (k:Int))=true:=i_
    go_wp2_with fail;refine Jv.o.mono ?_;rintro e w3 ⟨v3,Je,rfl,Ja,Jg,Jc⟩;obtain⟨g3,c3,rfl,-,-⟩:=Ja.form o_;have O:=(Ja.cell k hlt).1;have Jq:Bl w2 w3:=H.trans (Jc.mono H.size);have Ji:Hid (Cs E w3 [] [] v X tk (-1) (-1)):=Jn.o.below Jc;have z5:=(Jc.cell (p:=⟨E.C,5,none⟩) J).trans y5;have zf:=(Jc.frozen (p:=⟨E.C,5,none⟩) J).trans f5;by_cases ho:k∈Je
    ·have Y:Hid (Jd=(7,(k:Int),-1)):=(by show _=_;rw[Jh.o];exact rY ⟨.inl rfl,(Jg k).1 ho⟩);rw[decide_eq_true ho]at O;have Jf:=ah (Ji.o.put 5 _ (Ji.o.box.s5 (k:Int)));go_wp2_with fail;refine(di E.C 7 (k:Int) (-1) _ Jf.o.box.c5 Jf.o.box.c6).mono ?_;rintro e w5 ⟨rfl,U⟩;rw[U];go_wp2;go_ret;exact⟨aC (by rw[Y.o];rfl),Jf.o.base⟩
    have I:Hid (Jd=dK E.t k (k+1) (E.t.fc.length-(k+1))):=(by show _=_;rw[Jh.o];exact lx (λh=>ho ((Jg k).2 h.2)));rw[decide_eq_false ho]at O;go_wp2;go_roundw
    case rel=>exact⟨k+1,o_,by go_num,I,Jq⟩
    case measure=>exact D1
   have b1:((k:Int) == (m:Int))=false:=by have:¬(k:Int)=(m:Int):=o_;simpa using this
   by_cases hko:k∈out
   ·have HA:Hid (k=m\/gL E.t m k):=.inr ((Jk k).1 hko);rw[decide_eq_true hko]at t0;go_wp2_with fail;refine Jv.o.mono ?_;rintro e w3 ⟨v3,Je,rfl,Ja,Jg,Jc⟩;obtain⟨g3,c3,rfl,-,-⟩:=Ja.form o_;have O:=(Ja.cell k hlt).1;have Jq:Bl w2 w3:=H.trans (Jc.mono H.size);have Ji:Hid (Cs E w3 [] [] v X tk (-1) (-1)):=Jn.o.below Jc;have z5:=(Jc.cell (p:=⟨E.C,5,none⟩) J).trans y5;have zf:=(Jc.frozen (p:=⟨E.C,5,none⟩) J).trans f5;by_cases ho:k∈Je
    ·have Y:Hid (Jd=(7,(k:Int),-1)):=(by show _=_;rw[Jh.o];exact rY ⟨HA,(Jg k).1 ho⟩);rw[decide_eq_true ho]at O;have Jf:=ah (Ji.o.put 5 _ (Ji.o.box.s5 (k:Int)));go_wp2_with fail;refine(di E.C 7 (k:Int) (-1) _ Jf.o.box.c5 Jf.o.box.c6).mono ?_;rintro e w5 ⟨rfl,U⟩;rw[U];go_wp2;go_ret;exact⟨aC (by rw[Y.o];rfl),Jf.o.base⟩
    have I:Hid (Jd=dK E.t m (k+1) (E.t.fc.length-(k+1))):=(by show _=_;rw[Jh.o];exact lx (λh=>ho ((Jg k).2 h.2)));rw[decide_eq_false ho]at O;go_wp2;go_roundw
    case rel=>exact⟨k+1,o_,by go_num,I,Jq⟩
    case measure=>exact D1
   have I:Hid (Jd=dK E.t m (k+1) (E.t.fc.length-(k+1))):=by show _=_;rw[Jh.o];refine lx (λh=>?_);rcases h.1 with h1|h1;exact hkm h1;exact hko ((Jk k).2 h1)
   rw[decide_eq_false hko]at t0;go_wp2;go_roundw
   case rel=>exact⟨k+1,o_,by go_num,I,H⟩
   case measure=>exact D1
  have I:Hid (Jd=(0,-1,-1)):=by show _=_;have e:E.t.fc.length-k=0:=o_;rw[Jb.o,e];rfl
  go_wp2;go_ret;exact⟨aC (by rw[I.o];rfl),Jn.o.base⟩
end Go.Proofs.YtngnoopnloojjaaGreatDoor
