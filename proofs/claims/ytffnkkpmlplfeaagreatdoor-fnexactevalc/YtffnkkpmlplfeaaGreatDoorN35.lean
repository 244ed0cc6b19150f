import Derived.Test.YtffnkkpmlplfeaaGreatDoorN34
import Derived.Shelf.SlMaps.Clone
namespace Go.Proofs.YtffnkkpmlplfeaaGreatDoor
open Go.Proofs.Tryz
open Go.RowKit
set_option linter.all false
set_option maxRecDepth 100000
set_option maxHeartbeats 16000000
variable[Inhabited Pick]
section
variable {E:CkV} {w:World} {v:Value} {bt:Nat} {tk:List ByteArray} {fn st:Int}
theorem clone_any (b:Nat) (es:Array MapEntry) (clock:Nat) (w:World) (hb:w.heap[b]? = some (.map es clock)) :
  Calls prog 139 #[.map (some b)] w λe w'=>e=.returned (.map (some w.heap.size))/\w'=w.alloc (.map es clock):=by
 have hq:=λw=>run_eql_map_nil_sl (P:=prog) w 77 _ _ (some b) underlying77;have hx := @run_callFunc_extern prog 172 _ Extern.MapsClone.clone func172 k_ k_ k_ k_;have hcl:=run_maps_clone_sl (P:=prog) w 77 hb;have hta:=λ(w:World) (v:Value)=>run_typeAssert_map_sl (P:=prog) w 77 20 _ _ v underlying77;go_enter func139,ntmps139;go_wp2;go_ret;exact⟨rfl,rfl⟩
theorem globF_some {gs:List Gl} (hp : ∀g∈gs,0<=g.size) (s:ByteArray):(globF gs s).isSome=decide (0<=globI gs s):=by
 rcases globF_I (s:=s) hp with ⟨h1,h2⟩|⟨z,h1,h2,h3⟩
 ·rw[h1,h2];rfl
 ·rw[h1,h2];simp[h3]
theorem Cs.fresh {g':ByteArray->Bool} {es:Array MapEntry} {clock:Nat} (h:Cs {E with gp:=g'} w [] [] v bt tk fn st) (hes:w.heap[E.bg]? = some (.map es clock)) (hng:E.ng<=1000) (hgf:E.gf=globF E.t.globals) (hgp:E.gp=λs=>decide (0<=globI E.t.globals s)) (hp : ∀g∈E.t.globals,0<=g.size) :
  Cs E ((w.alloc (.map es clock)).setCell ⟨E.C,4,none⟩ (.map (some w.heap.size))) [] [] v w.heap.size [] fn st:=by
 have h1:=h.below ((Below.refl w.heap.size w).alloc n_ (.map es clock));obtain⟨ng,Dg,g0,g1,g2⟩:=h.glob;have g0':ng<=E.ng:=g0;obtain⟨es',clock',e1,F,hs,hD⟩:=g1;have e2:some (Obj.map es clock)=some (.map es' clock'):=hes.symm.trans e1;simp only[Option.some.injEq,Obj.map.injEq] at e2;obtain⟨rfl,rfl⟩:=e2;have hC:=h.ltC;have hm : ∀b,E.C<b->((w.alloc (.map es clock)).setCell ⟨E.C,4,none⟩ (.map (some w.heap.size))).heap[b]? = (w.alloc (.map es clock)).heap[b]? := λb hb=>Below.heap_setCell _ _ _ b (λe=>by simp at e;omega);have hnew:((w.alloc (.map es clock)).setCell ⟨E.C,4,none⟩ (.map (some w.heap.size))).ownsMap prog 9 (plainElem (H:=Unit) prog 2) w.heap.size ng Dg:=⟨es,clock,(hm _ hC).trans (show (w.heap.push _)[w.heap.size]? = _ by simp),F,hs,hD⟩;have hnd:=h1.nd;have hgt:=h1.gt;have hlt:=h.lt;simp only[List.nodup_cons,List.mem_cons,not_or,List.not_mem_nil,not_false_eq_true,and_true] at hnd;obtain⟨ng1,Dg1,k0,k1,k2⟩:=h1.glob;refine⟨h1.box.s4 _,h1.low,h1.base.setCell (p:=⟨E.C,4,none⟩) h1.low _,h1.fun0,h1.row.other (Nat.lt_succ_self _),rfl,h1.small,⟨ng1,Dg1,k0,map_keep k1 (hm _ (hgt _ (by simp))),k2⟩,λj hj=>absurd hj (by simp),map_keep h1.own (hm _ (hgt _ (by simp))),h1.num,⟨ng,Dg,_,by simp only[l_n];omega,hnew,g2,λs => ?_⟩,?_,?_,?_⟩
 ·rw[hgp];show (E.gf s).isSome=_;rw[hgf,globF_some hp];simp[inS]
 ·have l1:=hlt E.bg (by simp);have l2:=hlt E.bn (by simp);simp only[List.nodup_cons,List.mem_cons,not_or,List.not_mem_nil,not_false_eq_true,and_true];have l1':E.bg<w.heap.size:=l1;have l2':E.bn<w.heap.size:=l2;refine⟨⟨hnd.1.1,by omega⟩,by omega,?_⟩;simp
 ·intro b hb;simp only[List.mem_cons,List.not_mem_nil,or_false] at hb;rcases hb with rfl|rfl|rfl
  ·exact hgt _ (by simp)
  ·exact hgt _ (by simp)
  ·exact hC
 ·intro x hx hb;simp only[List.mem_cons,List.not_mem_nil,or_false] at hb;have l:=(h.rlt x hx).2;rcases hb with rfl|rfl|rfl
  ·exact h.rown _ hx (by simp)
  ·exact h.rown _ hx (by simp)
  ·omega
theorem functionsK {g0:ByteArray->Bool} (h:Cs {E with gp:=g0} w [] [] v bt tk fn st) (hng:E.ng<=1000) (hgf:E.gf=globF E.t.globals) (hgp:E.gp=λs=>decide (0<=globI E.t.globals s)) (hp : ∀g∈E.t.globals,0<=g.size) (hfl:E.t.funcs.length<=1000) (hok : ∀f∈E.t.funcs,FnOk f) :
  Calls prog 107 #[.pointer (some ⟨E.C,0,none⟩)] w λe w'=>e=.returned (errV (bodiesE E.t 0 E.t.funcs).1 (bodiesE E.t 0 E.t.funcs).2.1 (bodiesE E.t 0 E.t.funcs).2.2) /\
   ∃g' v' bt' tk' fn' st',Cs {E with gp:=g'} w' [] [] v' bt' tk' fn' st'/\((bodiesE E.t 0 E.t.funcs).1=0->fn' = -1/\st' = -1):=by
 have HC0:=hide h;have HGF:=hide hgf;have HGP:=hide hgp;have HP:=hide hp;have HOk:=hide hok;obtain⟨RES,hRES⟩ : ∃R,R=bodiesE E.t 0 E.t.funcs:=⟨_,rfl⟩;rw[<-hRES];have HRES:=hide hRES;obtain⟨g,cap,rfl,hg,h1,h2,h3,-⟩:=BRw.cut (bs:=[]) h.row;have c0:=h.box.c0;have c2:=h.box.c2;have hC:=h.ltC;have hf0:=h.fun0.1;simp only at c0 c2 hf0;obtain⟨af,cf,hvf,-,-,hfc⟩:=hf0;rw[hvf] at c2;have HFC:=hide hfc;clear h hgf hgp hp hok hRES hfc hvf;simp only[l_n,Nat.zero_add] at c0 h1 h3;go_enter func107,ntmps107;go_wp2;go_loopw [20] (λj wr=>∃(k:Nat) (g':ByteArray->Bool) (v':Value) (bt':Nat) (tk':List ByteArray) (fn' st':Int),k<=E.t.funcs.length/\j=.int .i64 k/\Cs {E with gp:=g'} wr [] [] v' bt' tk' fn' st'/\RES=bodiesE E.t k (E.t.funcs.drop k)) (λj _=>E.t.funcs.length-(RowKit.intOf j).toNat)
 case atStart=>exact⟨0,g0,_,bt,tk,fn,st,y_,rfl,HC0,HRES⟩
 case round=>
  clear HC0 c0 c2 h3 hC HRES;obtain⟨k,g1,v1,bt1,tk1,fn1,st1,hk,rfl,hc,hres⟩:=hrel;have HC:=hide hc;have HRES:=hide hres;have y4:=hc.box.c4;have y5:=hc.box.c5;have y6:=hc.box.c6;have f4:=hc.box.fz 4;have f5:=hc.box.fz 5;have f6:=hc.box.fz 6;have hC:=hc.ltC;simp only at y4 y5 y6 f4 f5 f6 hC;clear hres;by_cases hlt:k<E.t.funcs.length
  ·obtain⟨bf,of,rfl,hfc⟩:=HFC o_;obtain⟨vp,vb,⟨d0,d1,d2⟩,hps,hbs⟩:=hfc k hlt;have hbl:bf<E.w0.heap.size:=b_ d0;have e0:=(hc.base.cell (p:=⟨bf,of+k*3,none⟩) hbl).trans d0;have e1:=(hc.base.cell (p:=⟨bf,of+k*3+1,none⟩) hbl).trans d1;have e2:=(hc.base.cell (p:=⟨bf,of+k*3+2,none⟩) hbl).trans d2;have hbC:bf<E.C:=l_ hbl hc.low;have HPs:=hide hps;have HBs:=hide hbs;have HFk:Hid (FnOk E.t.funcs[k]):=HOk _ (g_ hlt);have HR2:Hid (RES=bodiesE E.t k (E.t.funcs[k]::E.t.funcs.drop (k+1))):=by show _=_;rw[HRES.o,drop_cons_ _ _ hlt]
   obtain⟨ap,cp,rfl,-⟩:=hps;obtain⟨ab,cb,rfl,-⟩:=hbs;obtain⟨ng,Dg,-,⟨es,clock,hes,-⟩,-⟩:=hc.glob;simp only at hes;clear hfc d0 d1 d2 hc HRES hbl;generalize E.t.funcs[k]=f at e0 e1 e2 HPs HBs HFk HR2;go_wp2_with fail;obtain⟨WA,hWA⟩ : ∃WA,WA=(((wr.setCell ⟨E.C,5,none⟩ (.int .i64 (k:Int))).setCell ⟨E.C,6,none⟩ (.int .i64 (-1))).alloc (.cells #[.string f.name,.slice ap f.params.length cp,.slice ab f.body.length cb] 97)):=⟨_,rfl⟩;obtain⟨M,hM⟩ : ∃M,M=wr.heap.size:=⟨_,rfl⟩;have HCA:Hid (Cs {E with gp:=g1} WA [] [] v1 bt1 tk1 (k:Int) (-1)):=by
    show Cs _ _ _ _ _ _ _ _ _;rw[hWA];exact ((HC.o.put 5 _ (HC.o.box.s5 (k:Int))).put 6 _ ((HC.o.box.s5 (k:Int)).s6 (-1))).below (bel_a _ _)
   have z4:=HCA.o.box.c4;have zf:=HCA.o.box.fz 4;have hCA:=HCA.o.ltC;simp only at z4 zf hCA;have hMA:M<WA.heap.size:=by rw[hWA,hM];simp
   have m0:WA.cell? ⟨M,0,none⟩=some (.string f.name):=by rw[hWA];exact (World.cell?_alloc_at _ _ _ _ (by simp[hM])).trans rfl
   have m1:WA.cell? ⟨M,1,none⟩=some (.slice ap f.params.length cp):=by rw[hWA];exact (World.cell?_alloc_at _ _ _ _ (by simp[hM])).trans rfl
   have m2:WA.cell? ⟨M,2,none⟩=some (.slice ab f.body.length cb):=by rw[hWA];exact (World.cell?_alloc_at _ _ _ _ (by simp[hM])).trans rfl
   have hMC:M≠E.C:=by omega
   obtain⟨ng,Dg,-,⟨es2,clock2,hes2,-⟩,-⟩:=HCA.o.glob;simp only at hes2;rw[<-hWA,<-hM];clear hWA hM y4 y5 y6 f4 f5 f6 e0 e1 e2 hes;refine (clone_any E.bg es2 clock2 WA hes2).mono ?_;rintro e w2 ⟨rfl,hw⟩;rw[hw];clear hw;have HES:=hide hes2;clear hes2;go_wp2_with fail;have HCB:Hid (Cs E ((WA.setCell ⟨E.C,4,none⟩ (.map (some WA.heap.size))).alloc (.map es2 clock2)) [] [] v1 WA.heap.size [] (k:Int) (-1)):=by
    have:=Cs.fresh HCA.o HES.o hng HGF.o HGP.o HP.o
    rw[World.setCell_alloc_past _ _ _ _ hCA] at this;exact this
   obtain⟨k1,k2,k3,k4,k5,k6⟩:=HFk;refine (functionK HCB HGF HGP HP o_ f _ _ HPs ⟨HBs,k1,k2,k3⟩ k4 k5 k6).mono ?_;rintro e w3 ⟨rfl,⟨v3,tk3,st3,hc3,-⟩,-⟩;have HC3:=hide hc3;clear hc3 k1 k2 k3 k4 k5 k6 z4 zf m0 m1 m2;by_cases hz:(bodyE E.t k f).1=0
   ·have HN:Hid (RES=bodiesE E.t (k+1) (E.t.funcs.drop (k+1))):=by
     show _=_;rw[HR2.o,bodiesE,if_neg (by simp[hz])]
    rw[hz,errV_zero];clear hz;go_wp2;go_roundw
    case rel=>exact⟨k+1,E.gp,v3,_,tk3,(k:Int),st3,by omega,by go_num,HC3,HN⟩
    case measure=>simp[RowKit.intOf];omega
   ·have HN:Hid (RES=((bodyE E.t k f).1,(k:Int),(bodyE E.t k f).2.2)):=by
     show _=_;rw[HR2.o,bodiesE,if_pos hz];unfold bodyE at hz ⊢;split
     ·rfl
     ·rename_i hd;rw[if_neg hd] at hz;split
      ·rfl
      ·rename_i hd2;rw[if_neg hd2] at hz;simp at hz
    have HZ:=hide hz;rw[errV_ne hz];generalize (bodyE E.t k f).1=z1 at HN HZ ⊢;generalize (bodyE E.t k f).2.2=z2 at HN ⊢;clear hz;go_wp2;go_ret;exact⟨ret_val (by rw[HN.o,errV_ne HZ.o];rfl),E.gp,v3,_,tk3,_,st3,HC3,λh=>absurd h (by rw[HN.o];exact HZ)⟩
  ·have HN:Hid (RES=(0,-1,-1)):=by
    show _=_;have hkk:k=E.t.funcs.length:=by omega
    rw[HRES.o,hkk,List.drop_length];rfl
   have HC2:=hide ((HC.o.put 5 _ (HC.o.box.s5 (-1))).put 6 _ ((HC.o.box.s5 (-1)).s6 (-1)));clear hc HRES;go_wp2;go_ret;exact⟨ret_val (by rw[HN.o];rfl),g1,v1,bt1,tk1,-1,-1,HC2,λ_=>⟨rfl,rfl⟩⟩
end
section
variable {w:World}
theorem globF_snoc {l:List Gl} {g:Gl} (h:inS (l.map (·.name)) g.name=false):setN (globF l) g.name g.size=globF (l++[g]):=by
 funext s
 unfold setN globF;rw[List.find?_append];by_cases e:g.name=s
 ·have h2:l.find? (λx=>decide (x.name=s))=none:=by
   rw[List.find?_eq_none];intro x hx;simp only[decide_eq_true_eq];intro hn;have h3:inS (l.map (·.name)) g.name=true:=by
    unfold inS;rw[List.any_eq_true];exact⟨x.name,List.mem_map_of_mem hx,by simp[hn,e]⟩
   rw[h] at h3;cases h3
  rw[h2];simp[e]
 ·simp only[e,if_false];cases hf:l.find? (λx=>decide (x.name=s)) with
  | none=>simp[e]
  | some x=>simp
structure Ct0 (w0:World) (C bn nn:Nat) (D:DataW Unit) (t:Tr) (vg vf:Value) (w:World):Prop where
 c0:w.cell? ⟨C,0,none⟩=some (.slice none 0 0)
 c1:w.cell? ⟨C,1,none⟩=some vg
 c2:w.cell? ⟨C,2,none⟩=some vf
 c3:w.cell? ⟨C,3,none⟩=some (.map (some bn))
 c4 : ∃x,w.cell? ⟨C,4,none⟩=some x
 c5:w.cell? ⟨C,5,none⟩=some (.int .i64 (-1))
 c6:w.cell? ⟨C,6,none⟩=some (.int .i64 (-1))
 fz : ∀o,w.frozen? ⟨C,o,none⟩=false
 low:w0.heap.size<=C
 base:Below w0.heap.size w0 w
 fun0:Funcs w0 vf t.funcs/\Globs w0 vg t.globals
 own:w.ownsMap prog 9 (plainElem (H:=Unit) prog 2) bn nn D
 num:NumIs D t.funcs
 gt:C<bn
theorem topStart {w0:World} {C bn nn:Nat} {D:DataW Unit} {t:Tr} {vg vf:Value} (h:Ct0 w0 C bn nn D t vg vf w) :
  Calls prog 136 #[.pointer (some ⟨C,0,none⟩)] ((w.setCell ⟨C,4,none⟩ (.map (some w.heap.size))).alloc (.map #[] 0)) λe w'=>(∃u,e=.returned u)/\∃v,
   Cs ⟨w0,C,w.heap.size+1,bn,nn,D,t,vg,vf,λ_=>none,λ_=>false,0⟩ w' [] [] v w.heap.size [] (-1) (-1):=by
 have hC:C<w.heap.size:=b_ h.c0;obtain⟨x4,hx4⟩:=h.c4;obtain⟨W,hW⟩ : ∃W,W=(w.setCell ⟨C,4,none⟩ (.map (some w.heap.size))).alloc (.map #[] 0):=⟨_,rfl⟩;have hs:W.heap.size=w.heap.size+1:=by rw[hW];simp
 have hcell : ∀o,o≠4->W.cell? ⟨C,o,none⟩=w.cell? ⟨C,o,none⟩:=λo ho=>by
  rw[hW,World.cell?_alloc_lt _ _ ⟨C,o,none⟩ (by simpa using hC)];exact s_ _ _ _ _ (off_ne (λe=>ho e.symm))
 have h4:W.cell? ⟨C,4,none⟩=some (.map (some w.heap.size)):=by
  rw[hW,World.cell?_alloc_lt _ _ ⟨C,4,none⟩ (by simpa using hC)];exact World.cell?_setCell_same _ _ _ hx4
 have hfz : ∀o,W.frozen? ⟨C,o,none⟩=false:=λo=>by
  rw[hW,World.frozen?_alloc_past _ _ _ (by simpa using hC)];simpa using h.fz o
 have hblk : ∀b,b<w.heap.size->b≠C->W.heap[b]? = w.heap[b]? := λb hb hne=>by
  rw[hW,Below.heap_alloc _ _ _ (by simpa using hb),Below.heap_setCell _ _ _ b hne]
 have hbase:Bl w0 W:=by
  rw[hW];exact (h.base.setCell (p:=⟨C,4,none⟩) h.low _).alloc (by have:=h.base.size;simpa using this) _
 have htk:W.ownsMap prog 9 (plainElem (H:=Unit) prog 2) w.heap.size 0 (.map []):=by
  have:=World.ownsMap_made (H:=Unit) (w.setCell ⟨C,4,none⟩ (.map (some w.heap.size))) prog 9 (plainElem (H:=Unit) prog 2)
  rw[<-hW] at this;simpa using this
 have hown:W.ownsMap prog 9 (plainElem (H:=Unit) prog 2) bn nn D:=map_keep h.own (hblk _ h.own.lt (by have:=h.gt;omega));rw[<-hW];have hrow:BRw (C+1) W (.slice none 0 0) []:=⟨by simp,.inl ⟨rfl,rfl⟩⟩;refine (open_any C (C+1) [] (.slice none 0 0) W o_ o_ ((hcell 0 (by decide)).trans h.c0) (hfz 0) hrow (by simp)).mono ?_;rintro e w' ⟨he,v',w1,rfl,hr,hm,hg,ho⟩;rw[hs] at hm hr ho;have hblk2 : ∀b,b<W.heap.size->b≠C->(w1.setCell ⟨C,0,none⟩ v').heap[b]? = W.heap[b]? := λb hb hne=>(Below.heap_setCell _ _ _ b hne).trans (hg.block b hb (by simp[Value.ownBlock]));have hC1:w1.heap[C]? = W.heap[C]? := hg.block C o_ (by simp[Value.ownBlock]);have hbox:CBox W C (.slice none 0 0) vg vf bn w.heap.size (-1) (-1):=⟨(hcell 0 (by decide)).trans h.c0,(hcell 1 (by decide)).trans h.c1,(hcell 2 (by decide)).trans h.c2,(hcell 3 (by decide)).trans h.c3,h4,(hcell 5 (by decide)).trans h.c5,(hcell 6 (by decide)).trans h.c6,hfz⟩;have hbn:=h.own.lt;have hgt:=h.gt;refine⟨he,v',(hbox.keep hC1).s0 v',h.low,(hbase.grown hg hbase.size (λk hk=>by simp[Value.ownBlock] at hk)).setCell (p:=⟨C,0,none⟩) h.low v',h.fun0,hr,rfl,by simp,⟨0,_,n_,hm,MapIs.nil⟩,λj hj=>absurd hj (by simp),map_keep hown (hblk2 _ (by show bn<_;omega) (by show bn≠C;omega)),h.num,⟨0,_,_,by simp,map_keep htk (hblk2 _ o_ o_),MapIs.nil,λs=>by simp[inS]⟩,?_,?_,?_⟩
 ·simp only[List.nodup_cons,List.mem_cons,not_or,List.not_mem_nil,not_false_eq_true,and_true];refine⟨⟨by omega,by omega⟩,by omega,?_⟩;simp
 ·intro b hb;simp only[List.mem_cons,List.not_mem_nil,or_false] at hb;show C<b;rcases hb with rfl|rfl|rfl <;> omega
 ·intro x hx hb;simp only[List.mem_cons,List.not_mem_nil,or_false] at hb;rcases ho x hx with q|q
  ·simp[Value.ownBlock] at q
  ·rcases hb with rfl|rfl|rfl <;> omega
theorem CkV.same (E:CkV) {f:ByteArray->Option Int} {n:Nat} (h1:f=E.gf) (h2:n=E.ng) : {E with gf:=f,ng:=n}=E:=by subst h1 h2;rfl
theorem box2M {M:Nat} {w':World} {t:TypeId} {x0 x1:Value} (hM:M=w.heap.size) (hw:w'=w.alloc (.cells #[x0,x1] t)):w'.cell? ⟨M,0,none⟩=some x0/\w'.cell? ⟨M,1,none⟩=some x1:=by
 subst hM hw;simp
theorem topK {E:CkV} (h:Ct0 E.w0 E.C E.bn E.nn E.D E.t E.vg E.vf w) (hbg:E.bg=w.heap.size+1) (hgf:E.gf=λ_=>none) (hgp:E.gp=λ_=>false) (hng:E.ng=0)
  (hgl:E.t.globals.length<=1000) (hfl:E.t.funcs.length<=1000) (hgw : ∀g∈E.t.globals,g.name.size<=9223372036854775807/\0<=g.size/\g.size<=4000) (hfw : ∀f∈E.t.funcs,f.name.size<=9223372036854775807) :
  Calls prog 105 #[.pointer (some ⟨E.C,0,none⟩)] w λe w'=>e=.returned (errV (topE E.t).1 (topE E.t).2.1 (topE E.t).2.2) /\
   ∃gf' ng' v bt tk fn st,Cs {E with gf:=gf',ng:=ng'} w' [] [] v bt tk fn st/\((topE E.t).1=0->gf'=globF E.t.globals/\ng'<=1000/\fn = -1/\st = -1):=by
 have HSt:Hid (Calls prog 136 #[.pointer (some ⟨E.C,0,none⟩)] ((w.setCell ⟨E.C,4,none⟩ (.map (some w.heap.size))).alloc (.map #[] 0)) λe w'=>(∃u,e=.returned u)/\∃v,Cs E w' [] [] v w.heap.size [] (-1) (-1)):=by
  have h1:=topStart h;have e:(⟨E.w0,E.C,w.heap.size+1,E.bn,E.nn,E.D,E.t,E.vg,E.vf,λ_=>none,λ_=>false,0⟩:CkV)=E:=by rw[<-hbg,<-hgf,<-hgp,<-hng]
  rw[e] at h1;exact h1
 have HGP:=hide hgp;have HGW:=hide hgw;have HFW:=hide hfw;have HG0:Hid (E.gf=globF []/\E.ng=0):=⟨by rw[hgf];rfl,hng⟩;obtain⟨RES,hRES⟩ : ∃R,R=topE E.t:=⟨_,rfl⟩;rw[<-hRES];have HRES:=hide hRES;have hC:E.C<w.heap.size:=b_ h.c0;obtain⟨x4,y4⟩:=h.c4;have f4:=h.fz 4;have hmm := @run_makeMap prog;obtain⟨ag,cg,hvg,-,-,hgc⟩:=h.fun0.2;obtain⟨af,cf,hvf,-,-,hfc⟩:=h.fun0.1;have HGC:=hide hgc;have HFC:=hide hfc;have HVG:=hide hvg;have HVF:=hide hvf;clear h hbg hgf hgp hng hRES hgc hfc hgw hfw hvg hvf;go_enter func105,ntmps105;go_wp2_with fail;refine HSt.o.mono ?_;rintro e w1 ⟨⟨u,rfl⟩,v,hc1⟩;obtain⟨bt,hbt⟩ : ∃bt,bt=w.heap.size:=⟨_,rfl⟩;rw[<-hbt] at hc1 ⊢;have HC1:=hide hc1;have c1:=hc1.box.c1;rw[HVG.o] at c1;clear hc1 y4 f4 hC hmm HSt hbt;go_wp2;go_loopw [23] (λj wr=>∃(k:Nat),k<=E.t.globals.length/\j=.int .i64 k/\Cs {E with gf:=globF (E.t.globals.take k),ng:=k} wr [] [] v bt ((E.t.globals.take k).map (·.name)) (-1) (-1)/\dupG [] E.t.globals=dupG ((E.t.globals.take k).map (·.name)) (E.t.globals.drop k)) (λj _=>E.t.globals.length-(RowKit.intOf j).toNat)
 case atStart=>
  refine⟨0,y_,rfl,?_,by simp⟩;have e : {E with gf:=globF (E.t.globals.take 0),ng:=0}=E:=by
   exact CkV.same E (by rw[HG0.o.1];simp) HG0.o.2.symm
  rw[e];exact HC1
 case round=>
  clear HC1 c1 HG0;obtain⟨k,hk,rfl,hc,hd⟩:=hrel;have HC:=hide hc;have HD:=hide hd;clear hd;by_cases hlt:k<E.t.globals.length
  ·obtain⟨b0,o0,rfl,hgc⟩:=HGC.o o_;obtain⟨d0,d1⟩:=hgc k hlt;have hb0:b0<E.w0.heap.size:=b_ d0;have e0:=(hc.base.cell (p:=⟨b0,o0+k*2,none⟩) hb0).trans d0;have e1:=(hc.base.cell (p:=⟨b0,o0+k*2+1,none⟩) hb0).trans d1;obtain⟨hz1,hz2,hz3⟩:=HGW.o _ (g_ hlt);have hZ:E.t.globals[k].name.size<=maxLen:=by unfold maxLen;omega
   have HWf:Hid ((Lit.int .i64 E.t.globals[k].size).wf=true):=WalkArith.wf_i64 o_;have HD2:Hid (dupG [] E.t.globals=dupG ((E.t.globals.take k).map (·.name)) (E.t.globals[k]::E.t.globals.drop (k+1))):=by show _=_;rw[HD.o,drop_cons_ _ _ hlt]
   have HTk:=hide (take_succ _ _ hlt);have htl:((E.t.globals.take k).map (·.name)).length<=1000:=by simp;omega
   have hCb:b0<wr.heap.size:=b_ e0;clear hgc d0 d1 hc HD hb0 hz1 hz2 hz3;generalize E.t.globals[k]=p at e0 e1 hZ HWf HD2 HTk;obtain⟨WA,hWA⟩ : ∃WA,WA=wr.alloc (.cells #[.string p.name,.int .i64 p.size] 63):=⟨_,rfl⟩;obtain⟨M,hM⟩ : ∃M,M=wr.heap.size:=⟨_,rfl⟩;have HCA:Hid (Cs {E with gf:=globF (E.t.globals.take k),ng:=k} WA [] [] v bt ((E.t.globals.take k).map (·.name)) (-1) (-1)):=by
    show Cs _ _ _ _ _ _ _ _ _;rw[hWA];exact HC.o.below (bel_a _ _)
   obtain⟨m0,m1⟩:=box2M hM hWA;have hMA:M<WA.heap.size:=by rw[hWA,hM];simp
   have hMt:M≠bt:=by have:=HC.o.lt bt (by simp);omega
   have hMg:M≠E.bg:=by have:=HC.o.lt E.bg (by simp);omega
   cases hx:inS ((E.t.globals.take k).map (·.name)) p.name with
   | true=>
    have HE:Hid (RES=(2,-1,-1)):=by
     show _=_;rw[HRES.o];unfold topE;rw[if_pos (by rw[HD2.o];exact dupG_hit hx)]
    have HX:Hid (inS ((E.t.globals.take k).map (·.name)) p.name=true∨E.gp p.name=true):=.inl hx;clear hx;go_wp2_with fail;rw[<-hWA];clear hWA hM e0 e1;refine (takeOld HCA.o hZ HX).mono ?_;rintro e w2 ⟨rfl,hw⟩;rw[hw,errV_ne (by decide)];clear hw;go_wp2;go_ret;exact⟨ret_val (by rw[HE.o];rfl),_,_,_,_,_,_,_,HCA,λh=>absurd h (by rw[HE.o];show ¬(2:Int)=0;decide)⟩
   | false=>
    have HX:Hid (¬(inS ((E.t.globals.take k).map (·.name)) p.name=true∨E.gp p.name=true)):=by
     show ¬(_∨_);rw[HGP.o,hx];simp
    have HDn:Hid (dupG [] E.t.globals=dupG ((E.t.globals.take (k+1)).map (·.name)) (E.t.globals.drop (k+1))):=by show _=_;rw[HD2.o,dupG_step hx,HTk.o];simp
    have HGn:Hid (setN (globF (E.t.globals.take k)) p.name p.size=globF (E.t.globals.take (k+1))):=by show _=_;rw[globF_snoc hx,HTk.o]
    have HNn:Hid ((E.t.globals.take k).map (·.name)++[p.name]=(E.t.globals.take (k+1)).map (·.name)):=by show _=_;rw[HTk.o];simp
    clear hx;go_wp2_with fail;rw[<-hWA];rw[<-hM];clear hWA hM e0 e1;refine (takeNew HCA.o hZ o_ HX).mono ?_;rintro e w2 ⟨rfl,hc2,ht2⟩;rw[HNn.o] at hc2;have HC2:=hide (hc2.below (r_.drew));have x0:w2.cell? ⟨M,0,none⟩=some (.string p.name):=(ht2.cell hMA hMt 0).trans m0;have x1:w2.cell? ⟨M,1,none⟩=some (.int .i64 p.size):=(ht2.cell hMA hMt 1).trans m1;have hM2:M<w2.heap.size:=l_ hMA ht2.size;have HAd:Hid (Calls prog 138 #[.pointer (some ⟨E.C,0,none⟩),.string p.name,.int .i64 p.size] w2.drew λe w'=>(∃u,e=.returned u)/\Cs {E with gf:=globF (E.t.globals.take (k+1)),ng:=k+1} w' [] [] v bt ((E.t.globals.take (k+1)).map (·.name)) (-1) (-1)/\Tcs (λj=>j=E.bg) w2.drew w'):=by
     have:=addG HC2.o hZ HWf.o (by show k<=_;omega)
     simp only[HGn.o] at this;exact this
    clear hc2 ht2 m0 m1;go_wp2_with fail;go_region_held3 (λW=>W.cell? ⟨M,0,none⟩=some (.string p.name)/\W.cell? ⟨M,1,none⟩=some (.int .i64 p.size)) (go_simp)
     (first
     | ((with_reducible refine Calls.mono HAd.o ?_);rintro e w3 ⟨⟨u3,rfl⟩,hc3,ht3⟩;have hcc0:w3.cell? ⟨M,0,none⟩=some (.string p.name):=(ht3.cell hM2 hMg 0).trans x0;have hcc1:w3.cell? ⟨M,1,none⟩=some (.int .i64 p.size):=(ht3.cell hM2 hMg 1).trans x1))
    have HC3:=hide hc3;clear hc3 ht3 x0 x1 hcc0 hcc1;go_wp2;go_roundw
    case rel=>exact⟨k+1,by omega,by go_num,HC3,HDn⟩
    case measure=>simp[RowKit.intOf];omega
  ·have hkk:k=E.t.globals.length:=by omega
   subst hkk;have HDG:Hid (dupG [] E.t.globals=false):=by show _=_;rw[HD.o];simp[dupG]
   have HCg:Hid (Cs {E with gf:=globF E.t.globals,ng:=E.t.globals.length} wr [] [] v bt (E.t.globals.map (·.name)) (-1) (-1)):=by
    have:=HC.o
    rw[List.take_length] at this;exact this
   have c2:=HCg.o.box.c2;simp only at c2;rw[HVF.o] at c2;clear HC HD hc;go_wp2;go_loopw [49] (λj w2=>∃(k:Nat) (fn':Int),k<=E.t.funcs.length/\j=.int .i64 k/\Cs {E with gf:=globF E.t.globals,ng:=E.t.globals.length} w2 [] [] v bt (E.t.globals.map (·.name)++(E.t.funcs.take k).map (·.name)) fn' (-1)/\dupF (E.t.globals.map (·.name)) 0 E.t.funcs=dupF (E.t.globals.map (·.name)++(E.t.funcs.take k).map (·.name)) k (E.t.funcs.drop k)) (λj _=>E.t.funcs.length-(RowKit.intOf j).toNat)
   case atStart=>exact⟨0,-1,y_,rfl,by simpa using HCg.o,by simp⟩
   case round=>
    clear HCg c2;obtain⟨k,fn1,hk,rfl,hc,hd⟩:=hrel;have HC:=hide hc;have HD:=hide hd;have y5:=hc.box.c5;have f5:=hc.box.fz 5;have hC:=hc.ltC;simp only at y5 f5 hC;clear hd;by_cases hlt:k<E.t.funcs.length
    ·obtain⟨bf,of,rfl,hfc⟩:=HFC.o o_;obtain⟨vp,vb,⟨d0,d1,d2⟩,⟨ap,cp,rfl,-⟩,⟨ab,cb,rfl,-⟩⟩:=hfc k hlt;have hbl:bf<E.w0.heap.size:=b_ d0;have e0:=(hc.base.cell (p:=⟨bf,of+k*3,none⟩) hbl).trans d0;have e1:=(hc.base.cell (p:=⟨bf,of+k*3+1,none⟩) hbl).trans d1;have e2:=(hc.base.cell (p:=⟨bf,of+k*3+2,none⟩) hbl).trans d2;have hZ:E.t.funcs[k].name.size<=maxLen:=by have:=HFW.o _ (g_ hlt);unfold maxLen;omega
     have HD2:Hid (dupF (E.t.globals.map (·.name)) 0 E.t.funcs=dupF (E.t.globals.map (·.name)++(E.t.funcs.take k).map (·.name)) k (E.t.funcs[k]::E.t.funcs.drop (k+1))):=by show _=_;rw[HD.o,drop_cons_ _ _ hlt]
     have HTk:=hide (take_succ _ _ hlt);have htl:(E.t.globals.map (·.name)++(E.t.funcs.take k).map (·.name)).length<=2000:=by simp;omega
     clear hfc d0 d1 d2 hc HD hbl;generalize E.t.funcs[k]=f at e0 e1 e2 hZ HD2 HTk;obtain⟨WA,hWA⟩ : ∃WA,WA=(wr.setCell ⟨E.C,5,none⟩ (.int .i64 (k:Int))).alloc (.cells #[.string f.name,.slice ap f.params.length cp,.slice ab f.body.length cb] 97):=⟨_,rfl⟩;have HCA:Hid (Cs {E with gf:=globF E.t.globals,ng:=E.t.globals.length} WA [] [] v bt (E.t.globals.map (·.name)++(E.t.funcs.take k).map (·.name)) (k:Int) (-1)):=by
      show Cs _ _ _ _ _ _ _ _ _;rw[hWA];exact (HC.o.put 5 _ (HC.o.box.s5 (k:Int))).below (bel_a _ _)
     cases hx:inS (E.t.globals.map (·.name)++(E.t.funcs.take k).map (·.name)) f.name with
     | true=>
      have HE:Hid (RES=(2,(k:Int),-1)):=by
       show _=_;rw[HRES.o];unfold topE;rw[if_neg (by rw[HDG.o];simp),HD2.o,dupF_hit hx]
      have HX:Hid (inS (E.t.globals.map (·.name)++(E.t.funcs.take k).map (·.name)) f.name=true∨E.gp f.name=true):=.inl hx;clear hx;go_wp2_with fail;rw[<-hWA];clear hWA e0 e1 e2;refine (takeOld HCA.o hZ HX).mono ?_;rintro e w2 ⟨rfl,hw⟩;rw[hw,errV_ne (by decide)];clear hw;go_wp2;go_ret;exact⟨ret_val (by rw[HE.o];rfl),_,_,_,_,_,_,_,HCA,λh=>absurd h (by rw[HE.o];show ¬(2:Int)=0;decide)⟩
     | false=>
      have HX:Hid (¬(inS (E.t.globals.map (·.name)++(E.t.funcs.take k).map (·.name)) f.name=true∨E.gp f.name=true)):=by
       show ¬(_∨_);rw[HGP.o,hx];simp
      have HNn:Hid (E.t.globals.map (·.name)++(E.t.funcs.take k).map (·.name)++[f.name]=E.t.globals.map (·.name)++(E.t.funcs.take (k+1)).map (·.name)):=by show _=_;rw[HTk.o];simp
      have HDn:Hid (dupF (E.t.globals.map (·.name)) 0 E.t.funcs=dupF (E.t.globals.map (·.name)++(E.t.funcs.take (k+1)).map (·.name)) ((k+1:Nat):Int) (E.t.funcs.drop (k+1))):=by show _=_;rw[HD2.o,dupF_step hx,HNn.o];simp
      clear hx;go_wp2_with fail;rw[<-hWA];clear hWA e0 e1 e2;refine (takeNew HCA.o hZ o_ HX).mono ?_;rintro e w2 ⟨rfl,hc2,ht2⟩;rw[HNn.o] at hc2;have HC2:=hide hc2;clear hc2 ht2;go_wp2;go_roundw
      case rel=>exact⟨k+1,(k:Int),by omega,by go_num,HC2,HDn⟩
      case measure=>simp[RowKit.intOf];omega
    ·have HN:Hid (RES=(0,-1,-1)):=by
      show _=_;have hkk:k=E.t.funcs.length:=by omega
      have e1:dupF (E.t.globals.map (·.name)) 0 E.t.funcs=none:=by rw[HD.o,hkk,List.drop_length];rfl
      rw[HRES.o];unfold topE;rw[if_neg (by rw[HDG.o];simp),e1]
     have HC2:=hide (HC.o.put 5 _ (HC.o.box.s5 (-1)));clear hc;go_wp2;go_ret;exact⟨ret_val (by rw[HN.o];rfl),_,_,_,_,_,_,_,HC2,λ_=>⟨rfl,hgl,rfl,rfl⟩⟩
end
end Go.Proofs.YtffnkkpmlplfeaaGreatDoor
