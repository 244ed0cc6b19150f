import Derived.Test.YtjfmapphpijneaaGreatDoorS84
import Derived.Test.YtjfmapphpijneaaGreatDoorS51
namespace Go.Proofs.YtjfmapphpijneaaGreatDoor
set_option linter.all false
set_option maxRecDepth 100000
set_option maxHeartbeats 0
open Go.Proofs.Tryz Go.RowKit
variable[Inhabited Pick]
section
open Go.World List
section
variable{C:IC}{w w':AT}{vV:Option Nat}{vO vI va xu:BY}{r:ER}{s' s:ES}{vs:List Int}{nm:Io}{k:Nat}{tu:JZ}{v op:Int}
def rN(W:AT)(v:BY):kl 127 212 212 v (.tuple #[v,.bool true]) W:=by show _=_;kernel_rfl
def vW(W:AT)(u:JZ)(v:BY)(h:u≠212):kl 127 212 u v (.tuple #[.agg #[],.bool false]) W:=eV (λ_ _=>by kernel_rfl) k_ h
def kH.drew(J:C.Ok){x:Ending}(h:kH C w vV vO r s' x w'):kH C w vV vO r s' x w'.drew:=by obtain⟨Ja,Jb,I,h2,h3,h4⟩:=h;exact⟨Ja,Jb,I,h2.below J (r_.drew),h3.drew,h4⟩
def ki{W:AT}{b nn:Nat}{D:DataW Unit}{J:List Fu}(Jb:W.ownsMap prog 9 (plainElem (H:=Unit) prog 2) b nn D)(Z:dj D J){x:Io}(U:x.size<=maxLen){g:Nat}(h:a_ J x=some g):
  (Instr.lookup 67 (.map (some b)) (sV x) false).run prog W=.ok (V (g:Int)) W:=by
 have⟨c,Ja,I,_⟩:=Jb.lookup_int (Maps.string_keyed underlying9) underlying67 underlying2 (zeroValue2 _) (WideMaps.keyOf_string_mk underlying9 U);rw[Z.val x g h]at I;simp only[DataW.lit.injEq,Lit.int.injEq,true_and]at I;subst I;exact Ja
def qD.below(hC:C.Ok)(h:qD C w vO va vs)(h0:IS C w vV vI vO s)(I:Bl w w'):qD C w' vO va vs:=by obtain⟨a,c,e,U,h2,h3⟩:=h;refine⟨a,c,e,U,h2,λhp=>?_⟩;have⟨b,Ja,J,hn,Z⟩:=h3 hp;exact⟨b,Ja,Ka I.size,hn,λj hj=>(I.cell (p:=⟨b,j,none⟩) J).trans (Z j hj)⟩
def eu(I:C.Ok)(h:IS C w vV vI vO s)(cs:Array BY)(T:JZ)(Jh:cs.size<=1000):∃W0 W1 M B,Hid (W0=w.alloc (.cells #[V 0,V 0] 65))/\Hid (W1=W0.alloc (.cells cs T))/\Hid (M=w.heap.size)/\Hid (B=W0.heap.size)/\Hid (Bl w W0)/\Hid (Bl W0 W1)/\Hid (aN W1 M [V 0,V 0])/\Hid (aN W1 B cs.toList)/\Hid (IS C W1 vV vI vO s)/\Hid (∀r {a b:Int} ,cH r=a->dg r=b->DO ((W1.setCell ⟨M,0,none⟩ (V a)).setCell ⟨M,1,none⟩ (V b)) M 0 (V a)/\DO ((W1.setCell ⟨M,0,none⟩ (V a)).setCell ⟨M,1,none⟩ (V b)) M 1 (V b)/\kH C w vV vO r s (rW (.agg #[V a,V b])) ((W1.setCell ⟨M,0,none⟩ (V a)).setCell ⟨M,1,none⟩ (V b)))/\M<W0.heap.size/\M≠B/\¬de C vO M/\¬de C vO B/\B<W1.heap.size/\(DO W1 M 0 (V 0)/\D4 W1 M 0)/\DO W1 M 1 (V 0)/\D4 W1 M 1:=by
 have⟨W0,Ja⟩:=q_ (w.alloc (.cells #[V 0,V 0] 65));have⟨W1,Jc⟩:=q_ (W0.alloc (.cells cs T));have Jd:Bl w W0:=by rw[Ja];exact r_.alloc n_ _
 have Jb:Bl W0 W1:=by rw[Jc];exact r_.alloc n_ _
 have Jf:aN W0 w.heap.size [V 0,V 0]:=by rw[Ja];exact aI w _ _ i_
 have Jg:aN W1 W0.heap.size cs.toList:=by rw[Jc];exact aI W0 _ _ Jh
 have Ji:W0.heap.size=w.heap.size+1:=by rw[Ja,J9]
 have Jj:W1.heap.size=W0.heap.size+1:=by rw[Jc,J9]
 have J:=Jf.below Jb;have Je:=h.below I Jd;exact⟨W0,W1,w.heap.size,W0.heap.size,Ja,Jc,rfl,rfl,Jd,Jb,J,Jg,Je.below I Jb,λr a b ha hb=>dS I rfl h Jd o_ Je (aj.refl _ _) (λk hk=>.inl hk) Jb J r ha hb,o_,o_,λhk=>by have:=(de.lt I h _ hk).1;omega,λhk=>by have:=(de.lt I h _ hk).1;omega,o_,J 0 _ rfl,J 1 _ rfl⟩
def DS(hC:C.Ok)(h:IS C w vV vI vO s)(v:Int)(va:Option Addr)(vn vc:Nat):
  Calls prog 145 #[pV C.P,.iface 157 (.agg #[V v]),.slice va vn vc] w λx w'=>kH C w vV vO (.val v) s x w':=by
 have⟨W0,W1,M,B,Jd,Jf,I,Je,Jj,Jo,Ji,Ja,Jl,Jb,Jk,Jg,Jm,Jn,Jh,⟨y0,f0⟩,y1,f1⟩:=eu hC h #[V v] 157 i_;have q1:=bQ;go_in;go_upto_region 1 with fail;rw[<-Jd.o,<-I.o];go_upto_region 4 with fail;rw[<-Jf.o,<-Je.o];have Jc:=ah (Jb.o (.val v) (a:=0) (b:=v) rfl rfl);have x0:=(Ja.o 0 _ rfl).1;go_wp2_with fail;have⟨U,Z,J⟩:=Jc.o;exact bodyPost_ret (v:=.agg #[V 0,V v]) (by simp[results,results145,go_sem,U,Z]) rfl J
def DT(J:C.Ok)(h:IS C w vV vI vO s)(Jj:qO C.t (s.l.map Prod.fst))(hz:nm.size<=maxLen)(Ji:nm∈s.l.map Prod.fst\/(nm∉s.l.map Prod.fst/\globI C.t.gl nm=0))(va:Option Addr)(vn vc:Nat):
  Calls prog 145 #[pV C.P,.iface 199 (.agg #[sV nm]),.slice va vn vc] w λx w'=>kH C w vV vO (.val (s.rd C.t nm)) s x w':=by
 have⟨W0,W1,M,B,Je,Jg,U,Jf,Jn,Jr,Jm,Ja,Jh,Jb,Jo,Jk,Jp,Jq,Jl,⟨y0,f0⟩,y1,f1⟩:=eu J h #[sV nm] 199 i_;have HC:=ah J;have q1:=λW v=>aS W 199 v d_;have q2:=oP;have I:=ah (FL HC.o Jh.o Jj hz Ji);generalize s.rd C.t nm=v at I⊢;have Jd:=ah (Jb.o (.val v) (a:=0) (b:=v) rfl rfl);go_in;go_upto_region 1 with fail;rw[<-Je.o,<-U.o];go_upto_region 7 with fail;rw[<-Jg.o,<-Jf.o];have x0:=(Ja.o 0 _ rfl).1;go_wp2_with fail;refine I.o.mono ?_;rintro e w2 ⟨rfl,Jc⟩;rw[Jc];go_wp2_with fail;have⟨t0,t1,Z⟩:=Jd.o;exact bodyPost_ret (v:=.agg #[V 0,V v]) (by simp[results,results145,go_sem,t0,t1]) rfl Z
theorem xZ(hC:C.Ok)(h:IS C w vV vI vO s)(hz:nm.size<=maxLen)(hk:k<C.t.gl.length)(hg:i7 C.t.gl nm=some k)(Z:qD C w vO va [v])(U:0<=v/\v<(s.ws C.t nm).length):
  Calls prog 145 #[pV C.P,.iface 201 (.agg #[sV nm,.iface tu xu]),va] w λx w'=>kH C w vV vO (.val ((s.ws C.t nm).getD v.toNat 0)) s x w':=by
 have⟨W0,W1,M,B,Jk,Jn,HM,Jl,Jc,Jp,Ju,Jf,Jd,Ji,Jw,Jq,Jx,Jy,Jr,⟨y0,f0⟩,y1,f1⟩:=eu hC h #[sV nm,.iface tu xu] 201 i_;have I:=ah hC;have q1:=λW v=>aS W 201 v d_;have q2:=λW v=>cW W 201 v d_;have q3:=i9;obtain⟨av,cv,rfl,-,-,Z⟩:=Z;obtain⟨J,rfl,Jh,Js,Jo⟩:=Z i_;have Ja:=Jo 0 i_;simp only[getElem_cons_zero,l_c,l_n,Nat.zero_add]at Ja⊢;have hq:Bl w W1:=Jc.o.trans (Jp.o.mono Jc.o.size);have Jg:W1.cell? ⟨J,0,none⟩=some (V v):=(hq.cell (p:=⟨J,0,none⟩) Jh).trans Ja;have Je:s.ws C.t nm=s.g.getD k []:=by unfold ES.ws;rw[hg]
 rw[Je]at U⊢;have⟨b,hb,Jt,Jb,hf⟩:=Jd.o.word I.o hk;have HE:Hid (Calls prog 105 #[pV C.P,sV nm,V v] W1.drew λe w'=>e=rW (.pointer (some ⟨b,v.toNat,none⟩))/\w'=W1.drew):=by
  have:=zv I.o (Jd.o.below I.o (r_.drew)) hz hk hg (v:=v) (by rw[<-Jb];exact U)
  rw[hb]at this;exact this
 have hc:=(hf v.toNat (V ((s.g.getD k []).getD v.toNat 0)) (by generalize s.g.getD k []=ws at U⊢;rw[getElem?_map,J4 o_];simp[List.getD,show v.toNat<ws.length by omega])).1;generalize (s.g.getD k []).getD v.toNat 0=vv at hc⊢;generalize v.toNat=j at hc HE;have Jj:=ah (Ji.o (.val vv) (a:=0) (b:=vv) rfl rfl);go_in;go_upto_region 1 with fail;rw[<-Jk.o,<-HM.o];go_upto_region 10 with fail;rw[<-Jn.o,<-Jl.o];have x0:=(Jf.o 0 _ rfl).1;have Jv:W1.drew.cell? ⟨B,0,none⟩=some (sV nm):=x0;have Jm:W1.drew.cell? ⟨J,0,none⟩=some (V v):=Jg;go_region_held3 (λW=>W.cell? ⟨B,0,none⟩=some (sV nm)/\W.cell? ⟨J,0,none⟩=some (V v)) (go_simp)
  (first
  | ((with_reducible refine Calls.mono HE.o ?_);rintro e w2 ⟨rfl,rfl⟩))
 go_wp2_with fail;have⟨t0,t1,hQ⟩:=Jj.o;exact bodyPost_ret (v:=.agg #[V 0,V vv]) (by simp[results,results145,go_sem,t0,t1]) rfl (hQ.drew I)
theorem vX(hC:C.Ok)(h:IS C w vV vI vO s)(hz:nm.size<=maxLen)(Z:k<C.t.gl.length)(hg:i7 C.t.gl nm=some k)(U:qD C w vO va [v])(hv:¬(0<=v/\v<(s.ws C.t nm).length)):
  Calls prog 145 #[pV C.P,.iface 201 (.agg #[sV nm,.iface tu xu]),va] w λx w'=>kH C w vV vO (.out 3) s x w':=by
 have⟨W0,W1,M,B,Jk,Jn,HM,Jl,Jc,Jp,Ju,Jf,Jd,Ji,Jw,Jq,Jx,Jy,Jr,⟨y0,f0⟩,y1,f1⟩:=eu hC h #[sV nm,.iface tu xu] 201 i_;have I:=ah hC;have q1:=λW v=>aS W 201 v d_;have q2:=λW v=>cW W 201 v d_;have q3:=i9;obtain⟨av,cv,rfl,-,-,U⟩:=U;obtain⟨J,rfl,Jh,Js,Jo⟩:=U i_;have Ja:=Jo 0 i_;simp only[getElem_cons_zero,l_c,l_n,Nat.zero_add]at Ja⊢;have hq:Bl w W1:=Jc.o.trans (Jp.o.mono Jc.o.size);have Jg:W1.cell? ⟨J,0,none⟩=some (V v):=(hq.cell (p:=⟨J,0,none⟩) Jh).trans Ja;have Je:s.ws C.t nm=s.g.getD k []:=by unfold ES.ws;rw[hg]
 rw[Je]at hv;have⟨b,hb,Jt,Jb,hf⟩:=Jd.o.word I.o Z;have HE:=ah (vU I.o (Jd.o.below I.o (r_.drew)) hz Z hg (v:=v) (by rw[<-Jb];exact hv));have Jj:=ah (Ji.o (.out 3) (a:=4) (b:=0) rfl rfl);go_in;go_upto_region 1 with fail;rw[<-Jk.o,<-HM.o];go_upto_region 10 with fail;rw[<-Jn.o,<-Jl.o];have x0:=(Jf.o 0 _ rfl).1;have Jv:W1.drew.cell? ⟨B,0,none⟩=some (sV nm):=x0;have Jm:W1.drew.cell? ⟨J,0,none⟩=some (V v):=Jg;go_region_held3 (λW=>W.cell? ⟨B,0,none⟩=some (sV nm)/\W.cell? ⟨J,0,none⟩=some (V v)) (go_simp)
  (first
  | ((with_reducible refine Calls.mono HE.o ?_);rintro e w2 ⟨rfl,rfl⟩))
 go_wp2_with fail;have⟨t0,t1,hQ⟩:=Jj.o;exact bodyPost_ret (v:=.agg #[V 4,V 0]) (by simp[results,results145,go_sem,t0,t1]) rfl (hQ.drew I)
def DU(I:C.Ok)(h:IS C w vV vI vO s)(hi:s.i=[])(va:Option Addr)(vn vc:Nat):
  Calls prog 145 #[pV C.P,.iface 212 (.agg #[]),.slice va vn vc] w λx w'=>kH C w vV vO (.val 0) s x w':=by
 have⟨W0,W1,M,B,Jd,Jf,J,Je,Jl,Jp,Jk,Jh,Jg,Ja,Jm,Ji,Jn,Jo,Jj,⟨y0,f0⟩,y1,f1⟩:=eu I h #[] 212 i_;have HC:=ah I;have q1:=λW v=>aS W 212 v d_;have q2:=λW v=>cW W 212 v d_;have q3:=λW v=>cR W 212 v d_;have q4:=λW v=>dN W 212 v d_;have q5:=rN;have Z:=ah (DQ HC.o Jg.o hi);have Jc:=ah (Ja.o (.val 0) (a:=0) (b:=0) rfl rfl);go_in;go_upto_region 1 with fail;rw[<-Jd.o,<-J.o];go_upto_region 19 with fail;rw[<-Jf.o,<-Je.o];go_wp2_with fail;refine Z.o.mono ?_;rintro e w2 ⟨rfl,Jb⟩;rw[Jb];go_wp2_with fail;have⟨t0,t1,U⟩:=Jc.o;exact bodyPost_ret (v:=.agg #[V 0,V 0]) (by simp[results,results145,go_sem,t0,t1]) rfl U
def FP(Z:C.Ok)(h:IS C w vV vI vO s){q:Int}{Jc:List Int}(hi:s.i=q::Jc)(va:Option Addr)(vn vc:Nat):
  Calls prog 145 #[pV C.P,.iface 212 (.agg #[]),.slice va vn vc] w λx w'=>kH C w vV vO (.val q) {s with i:=Jc} x w':=by
 have⟨W0,W1,M,B,Je,Jk,I,Jg,Ji,Jn,Jh,Jp,Jl,Js,Jj,Jq,Jm,Jt,Jr,⟨U,f0⟩,y1,f1⟩:=eu Z h #[] 212 i_;have H0:=ah h;have J:=ah Z;have q1:=λW v=>aS W 212 v d_;have q2:=λW v=>cW W 212 v d_;have q3:=λW v=>cR W 212 v d_;have q4:=λW v=>dN W 212 v d_;have q5:=rN;have HG:=ah (Bc J.o Jl.o hi);go_in;go_upto_region 1 with fail;rw[<-Je.o,<-I.o];go_upto_region 19 with fail;rw[<-Jk.o,<-Jg.o];go_wp2_with fail;refine HG.o.mono ?_;rintro e w2 ⟨Jo,rfl,Jf,Jb⟩;have Ja:=Jh.o.tcs (b_ U) Jb Jm;have Jd:=ah (dS J.o I.o H0.o Ji.o Jj Jf (de.next (Jn.o.tcs) Jb (λk hk=>.inl hk)) (λk hk=>.inl hk) r_ Ja (.val q) (a:=0) (b:=q) rfl rfl);have⟨U,f0⟩:=Ja 0 _ rfl;have⟨y1,f1⟩:=Ja 1 _ rfl;go_wp2_with fail;have⟨t0,t1,hQ⟩:=Jd.o;exact bodyPost_ret (v:=.agg #[V 0,V q]) (by simp[results,results145,go_sem,t0,t1]) rfl hQ
theorem FQ(hC:C.Ok)(h:IS C w vV vI vO s)(Jc:0<=op/\op<=2)(hv:d7 v)(J:qD C w vO va [v]):
  Calls prog 145 #[pV C.P,.iface 205 (.agg #[V op,.iface tu xu]),va] w λx w'=>kH C w vV vO (.val (rT op v)) s x w':=by
 have⟨W0,W1,M,B,Jj,Jm,U,Jk,Jb,Jo,Jv,Jd,Jx,Jh,Jw,Je,J_,Xb,Jp,⟨y0,f0⟩,y1,f1⟩:=eu hC h #[V op,.iface tu xu] 205 i_;have HC:=ah hC;have q1:=λW v=>aS W 205 v d_;have q2:=λW v=>cW W 205 v d_;have q3:=λW v=>cR W 205 v d_;have q4:=λW v=>dN W 205 v d_;have q5:=λW v=>vW W 205 v d_;have q6:=dm;obtain⟨av,cv,rfl,-,-,J⟩:=J;obtain⟨I,rfl,Jg,Jr,Jn⟩:=J i_;have Ja:=Jn 0 i_;simp only[getElem_cons_zero,l_c,l_n,Nat.zero_add]at Ja⊢;have hq:Bl w W1:=Jb.o.trans (Jo.o.mono Jb.o.size);have Jf:W1.cell? ⟨I,0,none⟩=some (V v):=(hq.cell (p:=⟨I,0,none⟩) Jg).trans Ja;have Z:=ah (yP op v Jc.1 Jc.2 hv W1.drew);generalize rT op v=q at Z⊢;have Ji:=ah (Jh.o (.val q) (a:=0) (b:=q) rfl rfl);have Js:¬I=M:=λe=>Ka U.o
 go_in;go_upto_region 1 with fail;rw[<-Jj.o,<-U.o];go_upto_region 22 with fail;rw[<-Jm.o,<-Jk.o];have x0:=(Jd.o 0 _ rfl).1;have Ju:W1.drew.cell? ⟨B,0,none⟩=some (V op):=x0;have Jl:W1.drew.cell? ⟨I,0,none⟩=some (V v):=Jf;have Jq:W1.drew.cell? ⟨M,0,none⟩=some (V 0):=y0;have Jz:W1.drew.cell? ⟨M,1,none⟩=some (V 0):=y1;have Xa:W1.drew.frozen? ⟨M,0,none⟩=false:=f0;have Jy:W1.drew.frozen? ⟨M,1,none⟩=false:=f1;have Jt:¬B=M:=λe=>Je e.symm;go_region_held3 (λW=>W.cell? ⟨B,0,none⟩=some (V op)/\W.cell? ⟨I,0,none⟩=some (V v)) (go_simp)
  (first
  | ((with_reducible refine Calls.mono Z.o ?_);rintro e w2 ⟨rfl,rfl⟩))
 go_wp2_with fail;have⟨t0,t1,hQ⟩:=Ji.o;exact bodyPost_ret (v:=.agg #[V 0,V q]) (by simp[results,results145,go_sem,t0,t1]) rfl (hQ.drew HC)
theorem DV(hC:C.Ok)(h:IS C w vV vI vO s){ty:JZ}{xy:BY}{v2:Int}(J:qD C w vO va [v,v2]):
  Calls prog 145 #[pV C.P,.iface 207 (.agg #[V op,.iface tu xu,.iface ty xy]),va] w λx w'=>kH C w vV vO (.val (cJ op v v2)) s x w':=by
 have⟨W0,W1,M,B,Jm,Jp,U,Jn,Jf,Jq,Jx,Jh,Jz,Jk,Jy,Ji,Xb,Xd,Jr,⟨y0,f0⟩,y1,f1⟩:=eu hC h #[V op,.iface tu xu,.iface ty xy] 207 i_;have HC:=ah hC;have q1:=λW v=>aS W 207 v d_;have q2:=λW v=>cW W 207 v d_;have q3:=λW v=>cR W 207 v d_;have q4:=λW v=>dN W 207 v d_;have q5:=λW v=>vW W 207 v d_;have q6:=λW v=>df W 207 v d_;have q7:=cY;obtain⟨av,cv,rfl,-,-,J⟩:=J;obtain⟨I,rfl,Jd,Jt,Jg⟩:=J i_;have Jb:=Jg 0 i_;have Ja:=Jg 1 i_;simp only[getElem_cons_zero,getElem_cons_succ,l_c,l_n,Nat.zero_add]at Jb Ja⊢;have Z:Bl w W1:=Jf.o.trans (Jq.o.mono Jf.o.size);have Jj:W1.cell? ⟨I,0,none⟩=some (V v):=(Z.cell (p:=⟨I,0,none⟩) Jd).trans Jb;have Jc:W1.cell? ⟨I,1,none⟩=some (V v2):=(Z.cell (p:=⟨I,1,none⟩) Jd).trans Ja;have HU:=ah (IG op v v2 W1.drew);generalize cJ op v v2=q at HU⊢;have Jl:=ah (Jk.o (.val q) (a:=0) (b:=q) rfl rfl);have Ju:¬I=M:=λe=>Ka U.o
 go_in;go_upto_region 1 with fail;rw[<-Jm.o,<-U.o];go_upto_region 25 with fail;rw[<-Jp.o,<-Jn.o];have x0:=(Jh.o 0 _ rfl).1;have Jw:W1.drew.cell? ⟨B,0,none⟩=some (V op):=x0;have Jo:W1.drew.cell? ⟨I,0,none⟩=some (V v):=Jj;have Je:W1.drew.cell? ⟨I,1,none⟩=some (V v2):=Jc;have Js:W1.drew.cell? ⟨M,0,none⟩=some (V 0):=y0;have Xa:W1.drew.cell? ⟨M,1,none⟩=some (V 0):=y1;have Xc:W1.drew.frozen? ⟨M,0,none⟩=false:=f0;have J_:W1.drew.frozen? ⟨M,1,none⟩=false:=f1;have Jv:¬B=M:=λe=>Ji e.symm;go_region_held3 (λW=>W.cell? ⟨B,0,none⟩=some (V op)/\W.cell? ⟨I,0,none⟩=some (V v)/\W.cell? ⟨I,1,none⟩=some (V v2)) (go_simp)
  (first
  | ((with_reducible refine Calls.mono HU.o ?_);rintro e w2 ⟨rfl,rfl⟩))
 go_wp2_with fail;have⟨t0,t1,hQ⟩:=Jl.o;exact bodyPost_ret (v:=.agg #[V 0,V q]) (by simp[results,results145,go_sem,t0,t1]) rfl (hQ.drew HC)
theorem Bi(I:C.Ok)(h:IS C w vV vI vO s)(hz:nm.size<=maxLen){f:Nat}(hf:a_ C.t.fc nm=some f){ra:Option Addr}{rn rc:Nat}{Z:Option Addr}{J U:Nat}(hA:qD C w vO (.slice Z J U) vs)(Jb:∀X,IS C X vV vI vO s->qD C X vO (.slice Z J U) vs->Calls prog 29 #[pV C.P,V (f:Int),.slice Z J U] X λx w'=>kH C X vV vO r s' x w'):
  Calls prog 145 #[pV C.P,.iface 203 (.agg #[sV nm,.slice ra rn rc]),.slice Z J U] w λx w'=>kH C w vV vO r s' x w':=by
 have⟨W0,W1,M,B,Xa,Jw,HM,Jk,Jd,Jc,Ji,Jg,Je,Xk,Jq,Xj,Jx,Xb,Xe,⟨y0,f0⟩,y1,f1⟩:=eu I h #[sV nm,.slice ra rn rc] 203 i_;have H0:=ah h;have HC:=ah I;have q1:=λW v=>aS W 203 v d_;have q2:=λW v=>cW W 203 v d_;have q3:=λW v=>cR W 203 v d_;have q4:=mz;have p2:=(Je.o.box 2 _ rfl).1;have⟨nN,DN,Xc,hN⟩:=Je.o.num I;have Xg:(Instr.lookup 67 (.map (some C.bN)) (sV nm) false).run prog W1.drew=.ok (V (f:Int)) W1.drew:=ki Xc.drew hN hz hf;have⟨ea,Jt⟩:=q_ (cH r);have⟨eb,Js⟩:=q_ (dg r);have Xd:Hid (lB r=.agg #[V ea,V eb]):=by show _=_;rw[Jt,Js];rfl
 have Ja:Bl W1 W1.drew:=r_.drew;have hq:Bl w W1.drew:=Jd.o.trans ((Jc.o.trans (Ja.mono Jc.o.size)).mono Jd.o.size);have Jz:Hid (Calls prog 29 #[pV C.P,V (f:Int),.slice Z J U] W1.drew λx w'=>x=rW (lB r)/\(w'.cell? ⟨B,0,none⟩=some (sV nm)/\w'.cell? ⟨C.P,2,none⟩=some (.map (some C.bN))/\(Instr.lookup 67 (.map (some C.bN)) (sV nm) false).run prog w'=.ok (V (f:Int)) w')/\(∀a b:BY,(Instr.lookup 67 (.map (some C.bN)) (sV nm) false).run prog ((w'.setCell ⟨M,0,none⟩ a).setCell ⟨M,1,none⟩ b)=.ok (V (f:Int)) ((w'.setCell ⟨M,0,none⟩ a).setCell ⟨M,1,none⟩ b))/\aN w' M [V 0,V 0]/\kH C W1.drew vV vO r s' x w'):=by refine(Jb W1.drew (Je.o.below I Ja) (hA.below I h hq)).mono λx w' hE=>?_;obtain⟨Jy,Ju,e1,e2,e3,e4⟩:=hE;have⟨n3,D3,Jj,Jh⟩:=e2.num I;exact⟨e1,⟨((Jg.o.below Ja).tcs (Ka Ja.size) e3 Xb 0 _ rfl).1,(e2.box 2 _ rfl).1,ki Jj Jh hz hf⟩,λa b=>ki (bX Jj ((((aj.refl (λk=>k=M) w').setCell (p:=⟨M,0,none⟩) rfl a).setCell (p:=⟨M,1,none⟩) rfl b)) (λe=>by have e':C.bN=M:=e;have:=HM.o;have:=(I.ne C.bN (.inl rfl)).1;have:=h.tc.size;omega)) Jh hz hf,(Ji.o.below Ja).tcs (b_ ((Ji.o.below Ja) 0 _ rfl).1) e3 Jx,Jy,Ju,e1,e2,e3,e4⟩
 go_in;go_upto_region 1 with fail;rw[<-Xa.o,<-HM.o];go_upto_region 16 with fail;rw[<-Jw.o,<-Jk.o];have x0:=(Jg.o 0 _ rfl).1;have Xh:W1.drew.cell? ⟨B,0,none⟩=some (sV nm):=x0;have Xf:W1.drew.cell? ⟨C.P,2,none⟩=some (.map (some C.bN)):=p2;go_region_held3 (λW=>W.cell? ⟨B,0,none⟩=some (sV nm)/\W.cell? ⟨C.P,2,none⟩=some (.map (some C.bN))/\(Instr.lookup 67 (.map (some C.bN)) (sV nm) false).run prog W=.ok (V (f:Int)) W) (go_simp)
  (first
  | ((with_reducible refine Calls.mono Jz.o ?_);rintro e w2 ⟨rfl,⟨s0,s1,s2⟩,s3,Jf,Jr⟩;have Jp:=ah Jr;have J_:=ah Jf;have⟨z0,g0⟩:=Jf 0 _ rfl;have⟨z1,g1⟩:=Jf 1 _ rfl;have e1:lB r=.agg #[.int .i64 ea,.int .i64 eb]:=Xd.o))
 obtain⟨Xl,Xm,-,Jo,Jm,Jl⟩:=Jp.o;have Xi:W1.drew.heap.size=W1.heap.size:=rfl;have Jv:aj (de C vO) W0 w2:=(Jc.o.tcs (S:=de C vO)).drew.trans Jm;have Jn:=ah (dS HC.o HM.o H0.o Jd.o Jq Jo Jv (λk hk=>(Jl k hk).imp id (λh=>Ka Jc.o.size)) r_ J_.o r (a:=cH r) (b:=dg r) rfl rfl);go_wp2_with fail;have⟨t0,t1,hQ⟩:=Jn.o;exact bodyPost_ret (v:=.agg #[V (cH r),V (dg r)]) (by simp[results,results145,go_sem,t0,t1]) rfl hQ
end
section
variable{C:IC}{w:AT}{vO:BY}{n:Nat}{nd:Nd}
def tz(C:IC)(w:AT)(vO:BY)(us:Nat->BY):wD C w vO nV 0 us:=⟨none,0,rfl,n_,o_,λh=>absurd h o_⟩
def fS{W:AT}(J:∀k,de C vO k->k<w.heap.size)(U:w.heap.size<=W.heap.size)(cs:Array BY)(T:JZ)(us:Nat->BY)(h:cs.size<=1000)(I:∀i,i<cs.size->cs.toList[i]? =some (us i)):wD C (W.alloc (.cells cs T)) vO (rV W.heap.size cs.size cs.size) cs.size us:=by
 refine⟨_,cs.size,rfl,n_,o_,λ_=>⟨W.heap.size,rfl,i_,λhk=>?_,λi hi=>?_⟩⟩
 have:=J _ hk;omega
 exact(aI W cs T h i _ (I i hi)).1
def OpC(C:IC)(f:Nat)(x:BY)(A:Nat)(us:Nat->BY):Prop:=∀(w:AT) (vV:Option Nat) (vI vO:BY) (s:ES),IS C w vV vI vO s->Calls prog f #[x] w λe w'=>∃a cp,e=rW (.slice a A cp)/\wD C w' vO (.slice a A cp) A us/\Bl w w'
def FZq(v:Int)(us:Nat->BY):OpC C 197 (.agg #[V v]) 0 us:=by intro w vV vI vO s h;go_in;go_wp2;go_ret;exact⟨_,_,rfl,tz _ _ _ _,r_.alloc n_ _⟩
def FT(v:Io)(us:Nat->BY):OpC C 204 (.agg #[sV v]) 0 us:=by intro w vV vI vO s h;go_in;go_wp2;go_ret;exact⟨_,_,rfl,tz _ _ _ _,r_.alloc n_ _⟩
def H_(us:Nat->BY):OpC C 211 (.agg #[]) 0 us:=by intro w vV vI vO s h;go_in;go_wp2;go_ret;exact⟨_,_,rfl,tz _ _ _ _,r_.alloc n_ _⟩
def Bj(U:C.Ok)(nm:Io)(t:JZ)(x:BY)(us:Nat->BY)(Z:us 0=.iface t x):OpC C 205 (.agg #[sV nm,.iface t x]) 1 us:=by
 intro w vV vI vO s h;have J:=λk hk=>(de.lt U h k hk).1;have I:=ah (fS (W:=w.alloc (.cells #[sV nm,.iface t x] 201)) J i_ #[.iface t x] 127 us i_ (λi hi=>by have e:i=0:=IN hi;subst e;simp[Z]))
 simp only[Bl,J9]at I;go_in;go_wp2;go_ret;exact⟨_,_,rfl,I,(ao _ _).alloc i_ _⟩
def Ib(Z:C.Ok)(J:Int)(t:JZ)(x:BY)(us:Nat->BY)(hu:us 0=.iface t x):OpC C 207 (.agg #[V J,.iface t x]) 1 us:=by
 intro w vV vI vO s h;have U:=λk hk=>(de.lt Z h k hk).1;have I:=ah (fS (W:=w.alloc (.cells #[V J,.iface t x] 205)) U i_ #[.iface t x] 127 us i_ (λi hi=>by have e:i=0:=IN hi;subst e;simp[hu]))
 simp only[Bl,J9]at I;go_in;go_wp2;go_ret;exact⟨_,_,rfl,I,(ao _ _).alloc i_ _⟩
def FU(hC:C.Ok)(Z:Int)(t:JZ)(x:BY)(I:JZ)(J:BY)(us:Nat->BY)(hu:us 0=.iface t x)(Ja:us 1=.iface I J):OpC C 208 (.agg #[V Z,.iface t x,.iface I J]) 2 us:=by
 intro w vV vI vO s h;have hn:=λk hk=>(de.lt hC h k hk).1;have U:=ah (fS (W:=w.alloc (.cells #[V Z,.iface t x,.iface I J] 207)) hn i_ #[.iface t x,.iface I J] 127 us i_ (λi hi=>by
  have:i=0\/i=1:=by simp at hi;omega
  rcases this with rfl|rfl;simp[hu];simp[Ja]))
 simp only[Bl,J9]at U;go_in;go_wp2;go_ret;exact⟨_,_,rfl,U,(ao _ _).alloc i_ _⟩
def DW(hC:C.Ok)(nm:Io)(U:BY)(A:Nat)(us:Nat->BY)(hA:gy C.w0 C.S U A us):OpC C 206 (.agg #[sV nm,U]) A us:=by
 intro w vV vI vO s h;obtain⟨a,Ja,rfl,h1,h2,h3⟩:=hA;have Z:Hid (∀X,Bl w X->wD C X vO (.slice a A Ja) A us):=λX hX=>by
  refine⟨a,Ja,rfl,h1,h2,λhp=>?_⟩;have⟨B,hB,hS,hc⟩:=h3 hp;have⟨q1,J,I⟩:=hC.sS B hS;have Jb:=h.tc.size;refine⟨B,hB,Ka hX.size,λhk=>?_,λi hi=>?_⟩
  ·rcases hk with hk|hk|hk
   ·exact J hk
   exact I hk
   have:=(World.ownsRow.lt h.out B hk).1;omega
  have e1:w.cell? ⟨B,i,none⟩=C.w0.cell? ⟨B,i,none⟩:=c_ (h.tc.block B q1 (λe=>e.elim J I));exact(hX.cell (p:=⟨B,i,none⟩) (by show B<w.heap.size;omega)).trans (e1.trans (hc i hi))
 go_in;go_wp2;go_ret;exact⟨_,_,rfl,Z _ (ao _ _),r_.alloc n_ _⟩
def gV{s:Io}(h:s.size<=n)(I:n<=100000):s.size<=maxLen:=by unfold maxLen;omega
def FW{J:List Io}(Ja:aO C.t J nd=0)(h:nd.kd=3):∃k,∃h:k<C.t.gl.length,i7 C.t.gl nd.nm=some k:=by obtain⟨-,h2⟩:=B7 Ja h;obtain⟨k,h,I,-⟩:=hU (gs:=C.t.gl) (x:=nd.nm) o_;exact⟨k,h,I⟩
theorem Bm(J:C.Ok){vV:Option Nat}{vI:BY}{s:ES}(h:IS C w vV vI vO s)(Ji:qO C.t (s.l.map Prod.fst))(hB:aJ nd=true)(Jf:aO C.t (s.l.map Prod.fst) nd=0){A:Nat}(hA:arity nd=A){vN:BY}{us:Nat->BY}(hV:JE C.w0 C.S vN nd A us)(h4:nd.kd≠4)(h8:nd.kd≠8)(h9:nd.kd≠9)(Jc:∀i,i<A->∃t x,us i=.iface t x){vv:Nat->Int}{a:Option Addr}{c:Nat}(Ja:qD C w vO (.slice a n c) (e_ A vv))(Jh:∀i,i<A->d7 (vv i)):
  Calls prog 145 #[pV C.P,vN,.slice a n c] w λx w'=>kH C w vV vO (gv C.t nd vv s).1 (gv C.t nd vv s).2 x w':=by
 have Jd:=gV (tJ hB) d_;have Z:∀k,nd.kd=k->arity nd=(if k=3\/k=6 then 1 else if k=4 then nd.val else if k=7\/k=8\/k=9 then 2 else 0):=λk I=>by rw[<-I];rfl
 rcases hV with⟨I,rfl⟩|⟨I,rfl⟩|⟨I,rfl⟩|⟨I,-⟩|⟨I,rfl⟩|⟨I,rfl⟩|⟨I,rfl⟩|⟨I,-⟩|⟨I,-⟩;have e:gv C.t nd vv s=(.val nd.val,s):=by simp[gv,I]
 rw[e];exact DS J h nd.val a n c;have e:gv C.t nd vv s=(.val (s.rd C.t nd.nm),s):=by simp[gv,I]
 rw[e];exact DT J h Ji Jd (uf Jf I) a n c;have Jb:A=1:=by have:=Z 3 I;simp at this;omega
 subst Jb;have⟨t,x,U⟩:=Jc 0 o_;have⟨k,Je,hg⟩:=FW Jf I;rw[show e_ 1 vv=[vv 0] by simp[e_]]at Ja;rw[U];by_cases hv:0<=vv 0/\vv 0<(s.ws C.t nd.nm).length;have e:gv C.t nd vv s=(.val ((s.ws C.t nd.nm).getD (vv 0).toNat 0),s):=(by simp only[gv,I];simp[hv]);rw[e];exact xZ J h Jd Je hg Ja hv;have e:gv C.t nd vv s=(.out 3,s):=(by simp only[gv,I];simp;intro h1;omega);rw[e];exact vX J h Jd Je hg Ja hv;exact absurd I h4;cases hi:s.i with
 | nil=>have e:gv C.t nd vv s=(.val 0,s):=(by simp[gv,I,hi]);rw[e];exact DU J h hi a n c
 | cons q r=>have e:gv C.t nd vv s=(.val q,{s with i:=r}):=(by simp[gv,I,hi]);rw[e];exact FP J h hi a n c
 have Jb:A=1:=by have:=Z 6 I;simp at this;omega
 subst Jb;have⟨t,x,U⟩:=Jc 0 o_;rw[show e_ 1 vv=[vv 0] by simp[e_]]at Ja;rw[U];have e:gv C.t nd vv s=(.val (rT nd.val (vv 0)),s):=by simp[gv,I]
 rw[e];exact FQ J h (by unfold aJ at hB;simp[I]at hB;omega) (Jh 0 o_) Ja;have Jb:A=2:=by have:=Z 7 I;simp at this;omega
 subst Jb;have⟨t,x,U⟩:=Jc 0 o_;have⟨t2,x2,Jg⟩:=Jc 1 o_;rw[show e_ 2 vv=[vv 0,vv 1] by simp[e_,range_succ]]at Ja;rw[U,Jg];have e:gv C.t nd vv s=(.val (cJ nd.val (vv 0) (vv 1)),s):=by simp[gv,I]
 rw[e];exact DV J h Ja;exact absurd I h8;exact absurd I h9
end
section
variable{C:IC}{w:AT}{vO:BY}
def qD.tcs{w':AT}{J:BY}{vs:List Int}(h:qD C w vO J vs)(U:aj (de C vO) w w'):qD C w' vO J vs:=by obtain⟨a,c,e,h1,h2,h3⟩:=h;refine⟨a,c,e,h1,h2,λhp=>?_⟩;have⟨b,Ja,Z,I,hc⟩:=h3 hp;exact⟨b,Ja,Ka U.size,I,λj hj=>(c_ (a:=⟨b,j,none⟩) (U.block b Z I)).trans (hc j hj)⟩
def JM(t:JZ)(x:BY)(f:Nat):Prop:=(∀W:AT,(method 392 t x "loop.example/s01725/impl.operands").run prog W=.ok (f,x) W)/\∀(y:BY) (W:AT),(callFunc f #[y]).run prog W=.ok (.enter f #[y]) W
def vY(hC:C.Ok){U:Option Nat}{vI:BY}{A j:Nat}{st:Nat->ES}{v:Nat->Int}{c:Int}{s1 s':ES}{r:ER}{us:Nat->BY}(h:IS C w U vI vO (st 0)){t:JZ}{x:BY}{f:Nat}(I:t≠209)(h2:t≠210)(hF:JM t x f)(hO:OpC C f x A us)(hc:c=2\/c=3)
  (Xq:∀(X:AT) (ar:BY),IS C X U vI vO (st 0)->wD C X vO ar A us->Calls prog 103 #[pV C.P,ar] X λx w'=>wE C X U vO A st v j c s1 x w')
  (Jg:(j<A/\r=.out c/\s'=s1)\/(j=A/\(st A).u=0/\r=.out 2/\s'=st A)\/(j=A/\0<(st A).u/\∀(X:AT) (vI2 vO2:BY) (a:Option Addr) (n cp:Nat),IS C X U vI2 vO2 (st A).sp->qD C X vO2 (.slice a n cp) (e_ A v)->(st A).n+1000000000*((st A).u:Int)<=100001000000000->Calls prog 145 #[pV C.P,.iface t x,.slice a n cp] X λx w'=>kH C X U vO2 r s' x w')):
  Calls prog 132 #[pV C.P,.iface t x] w λx w'=>kH C w U vO r s' x w':=by
 have n1:=λW=>cL W t x I;have n2:=λW=>dK W t x h2;obtain⟨hm,Yc⟩:=hF;have⟨W0,M,Xi,hM,Jt,Xe,Ju⟩:=iA w;have Js:=h.below hC Jt;have⟨Xk,Ya,H0,HC,X_,Jv,HM,Xy,J_,Je⟩:=h10 (hO W0 U vI vO (st 0) Js) Js h hC Xi Jt hM Xe Xq Jg;have Jj:¬de C vO M:=λhk=>by have:=(de.lt hC h M hk).1;omega
 clear h hC hO Xq Jg Xi Jt hM Xe Js I h2;go_in;go_upto_region 1 with fail;rw[<-X_.o,<-HM.o];go_wp2_with fail;refine Xk.o.mono ?_;rintro e w1 ⟨a,cp,rfl,hL,Jl⟩;have⟨Xj,Xw,Jp⟩:=h3 (J_ w1 _ (Ya.o.below HC Jl) hL) (Xy.o.below Jl) Jl;clear hL Jl J_ Xk;go_wp2_with fail;refine Xj.o.mono ?_;rintro e w2 ⟨vI2,vO2,Jx,Xg,Jf⟩;have Ji:aN w2 M [V 0,V 0]:=Xw.o.tcs (Ka Jp.o.size) Jx Jj;have Jr:Hid (aj (de C vO) W0 w2):=(Jp.o.tcs (S:=de C vO)).trans Jx;have Jd:Hid (∀q,vO2.ownBlock=some q->vO.ownBlock=some q\/W0.heap.size<=q):=λq hq=>(Xg q hq).imp id (λh=>Ka Jp.o.size);have⟨y0,f0⟩:=Ji 0 _ rfl;have⟨y1,f1⟩:=Ji 1 _ rfl;have Jy:=ah Ji;clear Jx Xg Ji Xj;rcases Jf with⟨hj,a2,Xt,c2,rfl,Ja,Jm⟩|⟨hj,rfl,Ja⟩
 ·have⟨Xx,Xv⟩:=h2 Ja Jm;rcases Je.o with⟨Xp,-⟩|⟨-,hu,J,e2⟩|⟨-,hu,Xc⟩
  ·omega
  ·have⟨Jo,Jb⟩:=h2 (tp Ja hu) (dS HC HM H0 Jv Ju Ja Jr Jd r_ Jy r (a:=3) (b:=0) (by rw[J];rfl) (by rw[J];rfl));rw[<-e2]at Jb;clear Ja Jm hu J e2;go_wp2_with fail;refine Jo.o.mono ?_;rintro e w3 ⟨rfl,Xh⟩;rw[Xh];clear Xh;go_wp2_with fail;obtain⟨Z,t1,hQ⟩:=Jb;exact bodyPost_ret (v:=.agg #[V 3,V 0]) (by simp[results,results132,go_sem,Z,t1]) rfl hQ
  have⟨Jo,Xu⟩:=h2 (fh HC Ja hu) Xc;clear Ja Jm hu Xc;go_wp2_with fail;refine Jo.o.mono ?_;rintro e w3 ⟨rfl,Xf,Jk⟩;have Jc:¬de C vO2 M:=λhk=>by rcases hk with I|I|I;exact Jj (.inl I);exact Jj (.inr (.inl I));rcases Jd.o M I with h2|h2;exact Jj (.inr (.inr h2));omega
  have Xl:=Jy.o.tcs (b_ y0) Jk Jc;have Xz:=ah (Xu w3 vI2 vO2 a2 Xt c2 Xf (Xv.o.tcs Jk) Xx.o.nn.2.1);have Xa:Hid (aj (de C vO) W0 w3):=de.next Jr Jk Jd;have⟨Xn,Jn⟩:=h2 Xl Jc;have Yb:W0.heap.size<=w3.heap.size:=Xa.o.size;clear Xf Jk Xl y0 y1 f0 f1 Jc;go_wp2_with fail;refine Xz.o.mono ?_;rintro e w4 ⟨Yd,Xs,rfl,Xd,Jz,Xm⟩;have Jh:=Xn.o.tcs (b_ (Xn 0 _ rfl).1) Jz Jn;have Xo:aj (de C vO) W0 w4:=de.next Xa Jz Jd;have Xb:∀k,Xs.ownBlock=some k->vO.ownBlock=some k\/W0.heap.size<=k:=λk hk=>by rcases Xm k hk with I|I;exact Jd k I;exact .inr o_
  have⟨e4,Jw⟩:=q_ (cH r);have⟨v4,Jq⟩:=q_ (dg r);rw[show lB r=.agg #[V e4,V v4] by rw[Jw,Jq];rfl];have Jb:=ah (dS HC HM H0 Jv Ju Xd Xo Xb r_ Jh r Jw.symm Jq.symm);clear Xd Jz Xo Xm Xb Jw Jq;have⟨y0,f0⟩:=Jh 0 _ rfl;have⟨y1,f1⟩:=Jh 1 _ rfl;clear Jh;go_wp2_with fail;obtain⟨Z,t1,hQ⟩:=Jb;exact bodyPost_ret (v:=.agg #[V e4,V v4]) (by simp[results,results132,go_sem,Z,t1]) rfl hQ
 have Xr:((c+1) != 0)=true:=by simp;omega
 rcases Je.o with⟨-,J,e2⟩|⟨Xp,-⟩|⟨Xp,-⟩
 ·have Jb:=ah (dS HC HM H0 Jv Ju Ja Jr Jd r_ Jy r (a:=c+1) (b:=0) (by rw[J];rfl) (by rw[J];rfl));rw[<-e2]at Jb;generalize c+1=c1 at Jb Xr⊢;clear Ja J e2;go_wp2_with fail;obtain⟨Z,t1,hQ⟩:=Jb;exact bodyPost_ret (v:=.agg #[V c1,V 0]) (by simp[results,results132,go_sem,Z,t1]) rfl hQ
 omega;omega
end
section
variable{C:IC}{w:AT}{vV:Option Nat}{vI vO xx xy:BY}{s s':ES}{r:ER}{tx ty:JZ}
def Bn(I:C.Ok)(h:IS C w vV vI vO s)(Jq:∀X,IS C X vV vI vO s->Calls prog 144 #[pV C.P,.iface tx xx,.iface ty xy,.bool true] X λx w'=>kH C X vV vO r s' x w'):
  Calls prog 132 #[pV C.P,.iface 209 (.agg #[.iface tx xx,.iface ty xy])] w λx w'=>kH C w vV vO r s' x w':=by
 obtain⟨W0,W1,M,B,Jh,Jf,J,hB,Jk,Jo,hm,hx,Ju,Jj,Jw,Xa,Jy,Xd,Xb,-⟩:=eu I h #[.iface tx xx,.iface ty xy] 209 i_;have⟨H0,HC,Js,Jx,U,Jt,Jv,Jp,Jl,Je,Jz⟩:=h11 h I Jh Jf J hB Jk Jo hm hx (Jq W1 Ju);have q1:=cZ;clear h I Jq Jh Jf J hB Jk Jo hm hx Ju Jj;have x0:=(Je 0 _ rfl).1;have x1:=(Je 1 _ rfl).1;go_in;go_upto_region 1 with fail;rw[<-Js.o,<-U.o];go_upto_region 4 with fail;rw[<-Jx.o,<-Jt.o];go_wp2_with fail;refine Jz.o.mono ?_;rintro e w4 ⟨Xc,J_,rfl,Jn,Jd,Ji⟩;have Ja:=Jl.o.tcs (b_ (Jl 0 _ rfl).1) Jd Jy;have Jm:aj (de C vO) W0 w4:=(Jp.o.tcs (S:=de C vO)).trans Jd;have Jg:∀k,J_.ownBlock=some k->vO.ownBlock=some k\/W0.heap.size<=k:=λk hk=>(Ji k hk).imp id (λh=>Ka Jp.o.size);have⟨e4,Jc⟩:=q_ (cH r);have⟨Z,Jb⟩:=q_ (dg r);rw[show lB r=.agg #[V e4,V Z] by rw[Jc,Jb];rfl];have Jr:=ah (dS HC U H0 Jv Jw Jn Jm Jg r_ Ja r Jc.symm Jb.symm);clear Jn Jd Jm Ji Jg Jc Jb x0 x1;have⟨y0,f0⟩:=Ja 0 _ rfl;have⟨y1,f1⟩:=Ja 1 _ rfl;clear Ja;go_wp2_with fail;obtain⟨t0,t1,hQ⟩:=Jr;exact bodyPost_ret (v:=.agg #[V e4,V Z]) (by simp[results,results132,go_sem,t0,t1]) rfl hQ
def DX(I:C.Ok)(h:IS C w vV vI vO s)(Jq:∀X,IS C X vV vI vO s->Calls prog 144 #[pV C.P,.iface tx xx,.iface ty xy,.bool false] X λx w'=>kH C X vV vO r s' x w'):
  Calls prog 132 #[pV C.P,.iface 210 (.agg #[.iface tx xx,.iface ty xy])] w λx w'=>kH C w vV vO r s' x w':=by
 obtain⟨W0,W1,M,B,Jh,Jf,J,hB,Jk,Jo,hm,hx,Ju,Jj,Jw,Xa,Jy,Xd,Xb,-⟩:=eu I h #[.iface tx xx,.iface ty xy] 210 i_;have⟨H0,HC,Js,Jx,U,Jt,Jv,Jp,Jl,Je,Jz⟩:=h11 h I Jh Jf J hB Jk Jo hm hx (Jq W1 Ju);have q1:=λW v=>cL W 210 v d_;have q2:=dC;clear h I Jq Jh Jf J hB Jk Jo hm hx Ju Jj;have x0:=(Je 0 _ rfl).1;have x1:=(Je 1 _ rfl).1;go_in;go_upto_region 1 with fail;rw[<-Js.o,<-U.o];go_upto_region 7 with fail;rw[<-Jx.o,<-Jt.o];go_wp2_with fail;refine Jz.o.mono ?_;rintro e w4 ⟨Xc,J_,rfl,Jn,Jd,Ji⟩;have Ja:=Jl.o.tcs (b_ (Jl 0 _ rfl).1) Jd Jy;have Jm:aj (de C vO) W0 w4:=(Jp.o.tcs (S:=de C vO)).trans Jd;have Jg:∀k,J_.ownBlock=some k->vO.ownBlock=some k\/W0.heap.size<=k:=λk hk=>(Ji k hk).imp id (λh=>Ka Jp.o.size);have⟨e4,Jc⟩:=q_ (cH r);have⟨Z,Jb⟩:=q_ (dg r);rw[show lB r=.agg #[V e4,V Z] by rw[Jc,Jb];rfl];have Jr:=ah (dS HC U H0 Jv Jw Jn Jm Jg r_ Ja r Jc.symm Jb.symm);clear Jn Jd Jm Ji Jg Jc Jb x0 x1;have⟨y0,f0⟩:=Ja 0 _ rfl;have⟨y1,f1⟩:=Ja 1 _ rfl;clear Ja;go_wp2_with fail;obtain⟨t0,t1,hQ⟩:=Jr;exact bodyPost_ret (v:=.agg #[V e4,V Z]) (by simp[results,results132,go_sem,t0,t1]) rfl hQ
def Id(t:JZ)(x:BY)(f:Nat)(h1:∀W:AT,(method 392 t x "loop.example/s01725/impl.operands").run prog W=.ok (f,x) W) (h2:∀(y:BY) (W:AT),(callFunc f #[y]).run prog W=.ok (.enter f #[y]) W):JM t x f:=⟨h1,h2⟩
def DY(Z:C.Ok){I:Nd}{A:Nat}{vN:BY}{us:Nat->BY}(hA:arity I=A)(hV:JE C.w0 C.S vN I A us)(h8:I.kd≠8)(h9:I.kd≠9)(Ja:∀i,i<A->∃t x,us i=.iface t x):∃t x f,vN=.iface t x/\t≠209/\t≠210/\JM t x f/\OpC C f x A us:=by
 have U:∀k,I.kd=k->arity I=(if k=3\/k=6 then 1 else if k=4 then I.val else if k=7\/k=8\/k=9 then 2 else 0):=λk h=>by rw[<-h];rfl
 rcases hV with⟨h,rfl⟩|⟨h,rfl⟩|⟨h,rfl⟩|⟨h,Jd,rfl,Jc⟩|⟨h,rfl⟩|⟨h,rfl⟩|⟨h,rfl⟩|⟨h,-⟩|⟨h,-⟩;obtain rfl:A=0:=by have:=U 1 h;simp at this;omega
 exact⟨_,_,197,rfl,d_,d_,Id _ _ _ (λW=>by kernel_rfl) (λy W=>by kernel_rfl),FZq I.val us⟩;obtain rfl:A=0:=by have:=U 2 h;simp at this;omega
 exact⟨_,_,204,rfl,d_,d_,Id _ _ _ (λW=>by kernel_rfl) (λy W=>by kernel_rfl),FT I.nm us⟩;obtain rfl:A=1:=by have:=U 3 h;simp at this;omega
 have⟨t,x,J⟩:=Ja 0 o_;rw[J];exact⟨_,_,205,rfl,d_,d_,Id _ _ _ (λW=>by kernel_rfl) (λy W=>by kernel_rfl),Bj Z I.nm t x us J⟩
 exact⟨_,_,206,rfl,d_,d_,Id _ _ _ (λW=>by kernel_rfl) (λy W=>by kernel_rfl),DW Z I.nm Jd A us Jc⟩;obtain rfl:A=0:=by have:=U 5 h;simp at this;omega
 exact⟨_,_,211,rfl,d_,d_,Id _ _ _ (λW=>by kernel_rfl) (λy W=>by kernel_rfl),H_ us⟩;obtain rfl:A=1:=by have:=U 6 h;simp at this;omega
 have⟨t,x,J⟩:=Ja 0 o_;rw[J];exact⟨_,_,207,rfl,d_,d_,Id _ _ _ (λW=>by kernel_rfl) (λy W=>by kernel_rfl),Ib Z I.val t x us J⟩
 obtain rfl:A=2:=by have:=U 7 h;simp at this;omega
 have⟨t,x,J⟩:=Ja 0 o_;have⟨t2,x2,Jb⟩:=Ja 1 o_;rw[J,Jb];exact⟨_,_,208,rfl,d_,d_,Id _ _ _ (λW=>by kernel_rfl) (λy W=>by kernel_rfl),FU Z I.val t x t2 x2 us J Jb⟩
 exact absurd h h8;exact absurd h h9
def DZ(C:IC)(Z:C.Ok)(n:Nat)(IH:Hz C n)(Jz:JL C n):Hz C (n+1):=by
 intro e s r s' hE Ji Jj Jg w vV vI vO vN h hT;by_cases h89:(aq e).kd=8\/(aq e).kd=9;obtain⟨b,Ja,-⟩:=DR hE h89;have⟨us,Jc,hV⟩:=hT.kids Jg Ja;have Jk:∀b',Cut e 2 b'->Tv C.w0 C.S (us 0) (kid e b' 0)/\Tv C.w0 C.S (us 1) (kid e b' 1):=λb' hc'=>by
  obtain⟨-,hb⟩:=hc'.one Ja;have e1:∀i,i<2->kid e b' i=kid e b i:=λi hi=>by unfold kid;rw[hb i o_,hb (i+1) o_]
  rw[e1 0 o_,e1 1 o_];exact⟨Jc 0 o_,Jc 1 o_⟩
 have⟨tx,xx,hx⟩:=(Jc 0 o_).isI;have⟨ty,xy,hy⟩:=(Jc 1 o_).isI;rw[hx,hy]at Jk;rcases hV with⟨I,-⟩|⟨I,-⟩|⟨I,-⟩|⟨I,-⟩|⟨I,-⟩|⟨I,-⟩|⟨I,-⟩|⟨I,rfl⟩|⟨I,rfl⟩
 omega;omega;omega;omega;omega;omega;omega;rw[hx,hy];exact Bn Z h (λX hX=>pW Z IH hE (.inl ⟨I,rfl⟩) Ji Jj Jg hX Jk);rw[hx,hy];exact DX Z h (λX hX=>pW Z IH hE (.inr ⟨I,rfl⟩) Ji Jj Jg hX Jk);have h8:(aq e).kd≠8:=λh=>h89 (.inl h);have h9:(aq e).kd≠9:=λh=>h89 (.inr h);have⟨A,b,st,v,j,Ja,Jv,hj,Jh,Jl⟩:=oN hE h8 h9;subst Jv;have⟨A',b',Je,Jm⟩:=jz Jg;obtain⟨rfl,Jp⟩:=Ja.one Je;have ek:∀i,i<A->kid e b i=kid e b' i:=λi hi=>by unfold kid;rw[Jp i o_,Jp (i+1) o_]
 have⟨us,Jc,hV⟩:=hT.kids Jg Ja;have Jr:∀i,i<A->∃t x,us i=.iface t x:=λi hi=>(Jc i hi).isI;obtain⟨t,x,f,rfl,t1,t2,hF,hO⟩:=DY Z Ja.ar hV h8 h9 Jr;have Jb:=Ja.root_good;have Ju:aq e∈e:=jS Ja.len;obtain⟨c,s1,hc,Jf,Jd⟩:∃c s1,(c=2\/c=3)/\FO C n A (λi=>kid e b i) st v j c s1/\((j<A/\r=.out c/\s'=s1)\/(j=A/\(st A).u=0/\r=.out 2/\s'=st A)\/(j=A/\0<(st A).u/\(((aq e).kd≠4/\r=(gv C.t (aq e) v (st A).sp).1/\s'=(gv C.t (aq e) v (st A).sp).2)\/((aq e).kd=4/\∃f,a_ C.t.fc (aq e).nm=some f/\Ev C.t C.fr n (.c f (e_ A v)) (st A).sp r s')))):=by
  have mk:∀c s1,(j<A->Ev C.t C.fr n (.e (kid e b j)) (st j) (.out c) s1)->FO C n A (λi=>kid e b i) st v j c s1:=λc s1 he=>⟨hj,Jh,he,λi hi=>Ji.kid,λi hi=>by show oneB (kid e b i)=true;rw[ek i hi];exact Jm i hi,Ka Ja.arA⟩;rcases Jl with⟨g1,c,U,J⟩|⟨g1,U,J,g4⟩|⟨g1,U,J,g4,g5⟩|⟨g1,U,J,g4⟩
  exact⟨c,s',J.outc c rfl,mk c s' (λ_=>J),.inl ⟨g1,U,rfl⟩⟩;exact⟨2,s',.inl rfl,mk 2 s' (λh=>by omega),.inr (.inl ⟨g1,U,J,g4⟩)⟩;exact⟨2,s',.inl rfl,mk 2 s' (λh=>by omega),.inr (.inr ⟨g1,U,.inl ⟨J,g4,g5⟩⟩)⟩;exact⟨2,s',.inl rfl,mk 2 s' (λh=>by omega),.inr (.inr ⟨g1,U,.inr ⟨J,g4⟩⟩)⟩
 refine vY Z h t1 t2 hF hO hc (λX ar hX hL=>pU Z IH Jf hc Jj hX hL Jc) ?_;rcases Jd with g|g|⟨rfl,U,J⟩;exact .inl g;exact .inr (.inl g);refine .inr (.inr ⟨rfl,U,λX vI2 vO2 a m cp hX hA hnb=>?_⟩);have⟨J_,Jq,Js⟩:=Jf.l h.ok j n_;have Jn:aO C.t ((st j).sp.l.map Prod.fst) (aq e)=0:=by show aO C.t ((st j).l.map Prod.fst) _=0;rw[Jq];exact Ji _ Ju
 rcases J with⟨h4,e1,e2⟩|⟨h4,f2,Jt,Jx⟩;rw[e1,e2];exact Bm Z hX (by show qO C.t ((st j).l.map Prod.fst);rw[Jq];exact Jj) Jb Jn Ja.ar hV h4 h8 h9 Jr hA Js;have Jy:=Jz f2 (e_ j v) (st j).sp r s' Jx (λhf=>by
  have⟨f3,q1,q2⟩:=jU Jn h4;rw[Jt]at q1;cases q1
  have Jo:=Ja.ar;simp only[arity,h4]at Jo;simp only[List.getD,J4 hf,Option.getD_some]at q2;rw[uT];simp at Jo;omega) (λy hy=>by
  obtain⟨k,I,rfl⟩:=mem_map.1 hy;exact Js k (mem_range.1 I)) (by
  have e1:(((st j).sp.u:Nat):Int)+1=((st j).u:Int):=(by simp only[ES.sp];omega);rw[e1];exact hnb)
 rcases hV with⟨I,-⟩|⟨I,-⟩|⟨I,-⟩|⟨I,Xa,e3,Jw⟩|⟨I,-⟩|⟨I,-⟩|⟨I,-⟩|⟨I,-⟩|⟨I,-⟩;omega;omega;omega;obtain⟨ra,rc,rfl,-⟩:=Jw;rw[e3];exact Bi Z hX (gV (tJ Jb) d_) Jt hA (λY hY hAY=>Jy Y vV vI2 vO2 _ hY hAY);omega;omega;omega;omega;omega
end
section
variable{t:Tr}{fr:List Int}{n b:Nat}{s s':ES}{r:ER}{C:IC}{w w1 w2:AT}{vO:BY}
def qE(C:IC)(w:AT)(b:Nat)(vO:BY)(ec vc:Int)(s':ES)(x:Ending)(w':AT):Prop:=∃vI' vO',x=rW (.agg #[V ec,V vc])/\IS C w' (some b) vI' vO' s'/\aj (dT C (some b) vO) w w'/\∀k,vO'.ownBlock=some k->vO.ownBlock=some k\/w.heap.size<=k
def Jv(C:IC)(n:Nat):Prop:=∀(L:List (BY×List St)) (z:ES) (r:ER) (z':ES),Ev C.t C.fr n (.bl (aG L)) z r z'->wC C.t (z.l.map Prod.fst) (aG L)->qO C.t (z.l.map Prod.fst)->∀(w:AT) (b:Nat) (vI vO vB:BY),IS C w (some b) vI vO z->kr C.w0 C.S vB L->Calls prog 53 #[pV C.P,vB] w λx w'=>qE C w b vO (cH r) (dg r) z' x w'
def Lk(t:Tr)(fr:List Int)(n:Nat)(s:St)(a b:List St)(z:ES)(ec vc:Int)(z':ES):Prop:=
 (z.u=0/\ec=3/\vc=0/\z'=z)\/(0<z.u /\
  ((s.kd≠5/\∃r,Ev t fr (n+1) (.p s a b) z.sp r z'/\ec=cH r/\vc=dg r) \/
  (s.kd=5/\((∃c,Ev t fr n (.e s.e) z.sp (.out c) z'/\ec=c+1/\vc=0)\/(Ev t fr n (.e s.e) z.sp (.val 0) z'/\ec=0/\vc=0)\/∃v z1 r,Ev t fr n (.e s.e) z.sp (.val v) z1/\v≠0/\Ev t fr n (.bl a) z1 r z'/\((r=.on/\ec=1/\vc=0)\/(r ≠ .on/\ec=cH r/\vc=dg r))))))
def vZ(t:Tr)(fr:List Int)(n:Nat)(s:St)(a b:List St)(z:ES)(r:ER)(z':ES):Prop:=(z.u=0/\r=.out 2/\z'=z)\/(0<z.u/\Ev t fr n (.p s a b) z.sp r z')
theorem oh{k:Tk}(h:Ev t fr n k s r s'):cH r≠1:=by
 cases r using ER.cs with
 | val v=>exact(by decide:(0:Int)≠1)
 | on=>decide
 | ret v=>exact(by decide:(2:Int)≠1)
 | out c=>rcases h.outc c rfl with e|e <;> (subst e;decide)
theorem vZ.look{s:St}{a b:List St}{z:ES}{J:ES}(h:vZ t fr n s a b z r J):∃ec vc z2,Lk t fr n s a b z ec vc z2/\((ec≠1/\ec=cH r/\vc=dg r/\z2=J)\/(ec=1/\z2.u<z.u/\vZ t fr n s a b z2 r J)):=by
 rcases h with⟨I,rfl,rfl⟩|⟨I,h2⟩
 ·exact⟨3,0,_,.inl ⟨I,rfl,rfl,rfl⟩,.inl ⟨d_,rfl,rfl,rfl⟩⟩
 ·by_cases hk:s.kd=5
  ·have U:=oh h2;have Jb:z.sp.u<z.u:=(by simp only[ES.sp];omega);have Ja:∀ {v z1 z2},Ev t fr n (.e s.e) z.sp (.val v) z1->Ev t fr n (.bl a) z1 .on z2->z2.u<z.u:=λ{v z1 z2} g1 g2=>by
    have:=g1.ou.1
    have:=g2.ou.1
    omega
   cases n with
   | zero=>first | cases h2 using Ev_i | cases h2
   | succ n=>
   cases h2 using Ev_i with
   | pbad m _ _ _ _ c _ g1=>exact⟨c+1,0,_,.inr ⟨I,.inr ⟨hk,.inl ⟨c,g1.up,rfl,rfl⟩⟩⟩,.inl ⟨U,rfl,rfl,rfl⟩⟩
   | whno m _ _ _ _ _ g1 g2=>exact⟨0,0,_,.inr ⟨I,.inr ⟨hk,.inr (.inl ⟨g2.up,rfl,rfl⟩)⟩⟩,.inl ⟨d_,rfl,rfl,rfl⟩⟩
   | whn m _ _ _ _ v z1 _ _ g1 g2 g3 g4 g5=>exact⟨_,_,_,.inr ⟨I,.inr ⟨hk,.inr (.inr ⟨v,z1,r,g2.up,g3,g4.up,.inr ⟨g5,rfl,rfl⟩⟩)⟩⟩,.inl ⟨U,rfl,rfl,rfl⟩⟩
   | whdr m _ _ _ _ v z1 _ g1 g2 g3 g4 g5=>exact⟨1,0,_,.inr ⟨I,.inr ⟨hk,.inr (.inr ⟨v,z1,.on,g2.up,g3,g4.up,.inl ⟨rfl,rfl,rfl⟩⟩)⟩⟩,.inr ⟨rfl,Ja g2.up g4.up,.inl ⟨g5,rfl,rfl⟩⟩⟩
   | whag m _ _ _ _ v z1 z2 _ _ g1 g2 g3 g4 g5 g6=>exact⟨1,0,_,.inr ⟨I,.inr ⟨hk,.inr (.inr ⟨v,z1,.on,g2.up,g3,g4.up,.inl ⟨rfl,rfl,rfl⟩⟩)⟩⟩,.inr ⟨rfl,Ja g2.up g4.up,.inr ⟨g5,g6.up⟩⟩⟩
   | _=>omega
  ·exact⟨_,_,_,.inr ⟨I,.inl ⟨hk,r,h2.up,rfl,rfl⟩⟩,.inl ⟨oh h2,rfl,rfl,rfl⟩⟩
def dT.lt(hC:C.Ok){vI:BY}(h:IS C w (some b) vI vO s):∀k,dT C (some b) vO k->k<w.heap.size:=λk hk=>by rcases hk with hk|hk;exact(de.lt hC h k hk).1;cases hk;rcases h.var with⟨e1,-⟩|⟨q,n,D,e1,h2,-⟩;cases e1;cases e1;exact h2.lt
def dT.next{vO1:BY}(h1:aj (dT C (some b) vO) w w1)(h2:aj (dT C (some b) vO1) w1 w2)(ho:∀k,vO1.ownBlock=some k->vO.ownBlock=some k\/w.heap.size<=k):aj (dT C (some b) vO) w w2:=
 h1.next h2 λk hk=>by rcases hk with hk|hk;rcases hk with rfl|hk|hk;exact .inl (.inl (.inl rfl));exact .inl (.inl (.inr (.inl hk)));rcases ho k hk with h|h;exact .inl (.inl (.inr (.inr h)));exact .inr h;exact .inl (.inr hk)
def dT.of{vV:Option Nat}(h:aj (de C vO) w w1):aj (dT C vV vO) w w1:=h.mono λk hk=>.inl hk
def eM(I:C.Ok){W0 w3:AT}{q:Nat}{Je Jb Ja:BY}{s0 s2:ES}{M:Nat}(hM:w.heap.size<=M)(J:IS C w (some q) Je vO s0)(Jc:Bl w W0)(Jf:M<W0.heap.size)(h:IS C w2 (some q) Jb Ja s2)(ht:aj (dT C (some q) vO) W0 w2)(ho:∀k,Ja.ownBlock=some k->vO.ownBlock=some k\/W0.heap.size<=k)(Jd:Bl w2 w3){x0 x1:BY}(hf:aN w3 M [x0,x1])(a b:Int):
  ((w3.setCell ⟨M,0,none⟩ (V a)).setCell ⟨M,1,none⟩ (V b)).cell? ⟨M,0,none⟩=some (V a)/\((w3.setCell ⟨M,0,none⟩ (V a)).setCell ⟨M,1,none⟩ (V b)).cell? ⟨M,1,none⟩=some (V b)/\qE C w q vO a b s2 (rW (.agg #[V a,V b])) ((w3.setCell ⟨M,0,none⟩ (V a)).setCell ⟨M,1,none⟩ (V b)):=by
 have Z:=(hf.set 0 (V a)).set 1 (V b);have U:aj (λk=>k=M) w3 ((w3.setCell ⟨M,0,none⟩ (V a)).setCell ⟨M,1,none⟩ (V b)):=(((aj.refl (λk=>k=M) w3).setCell (p:=⟨M,0,none⟩) rfl _).setCell (p:=⟨M,1,none⟩) rfl _);have⟨p1,p2,p3⟩:=J.hi I;refine⟨(Z 0 _ rfl).1,(Z 1 _ rfl).1,Jb,Ja,rfl,(h.below I Jd).past I U (λk hk=>?_),?_,λk hk=>?_⟩
 ·have e:k=M:=hk;subst e;refine⟨o_,λe=>?_,λe=>?_⟩
  ·have:=dT.lt I J k (.inr e);omega
  rcases ho k e with h1|h1
  ·have:=(World.ownsRow.lt J.out k h1).2;omega
  omega
 exact(((Jc.tcs (S:=dT C (some q) vO)).trans ht).of_below Jd).next U (λk hk=>.inr (by have e:k=M:=hk;omega));rcases ho k hk with h1|h1;exact .inl h1;exact .inr (Ka Jc.size)
def qE.drew(Z:C.Ok){w':AT}{J I:Int}{x:Ending}(h:qE C w b vO J I s' x w'):qE C w b vO J I s' x w'.drew:=by obtain⟨Ja,Jb,U,h2,h3,h4⟩:=h;exact⟨Ja,Jb,U,h2.below Z (r_.drew),h3.drew,h4⟩
def D_(U:C.Ok)(nm:Io)(t:JZ)(x:BY)(us:Nat->BY)(Z:us 0=.iface t x):OpC C 199 (.agg #[sV nm,.iface t x]) 1 us:=by
 intro w vV vI vO s h;have J:=λk hk=>(de.lt U h k hk).1;have I:=ah (fS (W:=w.alloc (.cells #[sV nm,.iface t x] 164)) J i_ #[.iface t x] 127 us i_ (λi hi=>by have e:i=0:=IN hi;subst e;simp[Z]))
 simp only[Bl,J9]at I;go_in;go_wp2;go_ret;exact⟨_,_,rfl,I,(ao _ _).alloc i_ _⟩
def FX(U:C.Ok)(nm:Io)(t:JZ)(x:BY)(us:Nat->BY)(Z:us 0=.iface t x):OpC C 200 (.agg #[sV nm,.iface t x]) 1 us:=by
 intro w vV vI vO s h;have J:=λk hk=>(de.lt U h k hk).1;have I:=ah (fS (W:=w.alloc (.cells #[sV nm,.iface t x] 165)) J i_ #[.iface t x] 127 us i_ (λi hi=>by have e:i=0:=IN hi;subst e;simp[Z]))
 simp only[Bl,J9]at I;go_in;go_wp2;go_ret;exact⟨_,_,rfl,I,(ao _ _).alloc i_ _⟩
def Bo(hC:C.Ok)(nm:Io)(t:JZ)(x:BY)(I:JZ)(J:BY)(us:Nat->BY)(hu:us 0=.iface t x)(Ja:us 1=.iface I J):OpC C 201 (.agg #[sV nm,.iface t x,.iface I J]) 2 us:=by
 intro w vV vI vO s h;have Z:=λk hk=>(de.lt hC h k hk).1;have U:=ah (fS (W:=w.alloc (.cells #[sV nm,.iface t x,.iface I J] 167)) Z i_ #[.iface t x,.iface I J] 127 us i_ (λi hi=>by
  have:i=0\/i=1:=by simp at hi;omega
  rcases this with rfl|rfl;simp[hu];simp[Ja]))
 simp only[Bl,J9]at U;go_in;go_wp2;go_ret;exact⟨_,_,rfl,U,(ao _ _).alloc i_ _⟩
def Ie(hC:C.Ok)(Z:Option Addr)(n1 c1:Nat)(U:Option Addr)(n2 J:Nat)(t:JZ)(x:BY)(us:Nat->BY)(hu:us 0=.iface t x):OpC C 196 (.agg #[.iface t x,.slice Z n1 c1,.slice U n2 J]) 1 us:=by
 intro w vV vI vO s h;have hn:=λk hk=>(de.lt hC h k hk).1;have I:=ah (fS (W:=w.alloc (.cells #[.iface t x,.slice Z n1 c1,.slice U n2 J] 155)) hn i_ #[.iface t x] 127 us i_ (λi hi=>by have e:i=0:=IN hi;subst e;simp[hu]))
 simp only[Bl,J9]at I;go_in;go_wp2;go_ret;exact⟨_,_,rfl,I,(ao _ _).alloc i_ _⟩
def Bq(hC:C.Ok)(J:Option Addr)(U Z:Nat)(t:JZ)(x:BY)(us:Nat->BY)(hu:us 0=.iface t x):OpC C 198 (.agg #[.iface t x,.slice J U Z]) 1 us:=by
 intro w vV vI vO s h;have hn:=λk hk=>(de.lt hC h k hk).1;have I:=ah (fS (W:=w.alloc (.cells #[.iface t x,.slice J U Z] 160)) hn i_ #[.iface t x] 127 us i_ (λi hi=>by have e:i=0:=IN hi;subst e;simp[hu]))
 simp only[Bl,J9]at I;go_in;go_wp2;go_ret;exact⟨_,_,rfl,I,(ao _ _).alloc i_ _⟩
def x_(U:C.Ok)(t:JZ)(x:BY)(us:Nat->BY)(Z:us 0=.iface t x):OpC C 194 (.agg #[.iface t x]) 1 us:=by
 intro w vV vI vO s h;have J:=λk hk=>(de.lt U h k hk).1;have I:=ah (fS (W:=w.alloc (.cells #[.iface t x] 129)) J i_ #[.iface t x] 127 us i_ (λi hi=>by have e:i=0:=IN hi;subst e;simp[Z]))
 simp only[Bl,J9]at I;go_in;go_wp2;go_ret;exact⟨_,_,rfl,I,(ao _ _).alloc i_ _⟩
def FY(U:C.Ok)(t:JZ)(x:BY)(us:Nat->BY)(Z:us 0=.iface t x):OpC C 202 (.agg #[.iface t x]) 1 us:=by
 intro w vV vI vO s h;have J:=λk hk=>(de.lt U h k hk).1;have I:=ah (fS (W:=w.alloc (.cells #[.iface t x] 168)) J i_ #[.iface t x] 127 us i_ (λi hi=>by have e:i=0:=IN hi;subst e;simp[Z]))
 simp only[Bl,J9]at I;go_in;go_wp2;go_ret;exact⟨_,_,rfl,I,(ao _ _).alloc i_ _⟩
def D0(U:C.Ok)(t:JZ)(x:BY)(us:Nat->BY)(Z:us 0=.iface t x):OpC C 203 (.agg #[.iface t x]) 1 us:=by
 intro w vV vI vO s h;have J:=λk hk=>(de.lt U h k hk).1;have I:=ah (fS (W:=w.alloc (.cells #[.iface t x] 169)) J i_ #[.iface t x] 127 us i_ (λi hi=>by have e:i=0:=IN hi;subst e;simp[Z]))
 simp only[Bl,J9]at I;go_in;go_wp2;go_ret;exact⟨_,_,rfl,I,(ao _ _).alloc i_ _⟩
end
section
variable{C:IC}{s:St}{a b:List St}{sv:BY}
def JX(t:Tr)(fr:List Int)(n:Nat)(s:St)(a b:List St)(v:Nat->Int)(y:ES)(ec vc:Int)(z':ES):Prop:=
 (s.kd=1/\ec=0/\vc=0/\z'={y with l:=y.l++[(s.nm,v 0)]}) \/
 (s.kd=2/\ec=0/\vc=0/\z'=y.wr t s.nm (v 0)) \/
 (s.kd=3/\((¬(0<=v 0/\v 0<(y.ws t s.nm).length)/\ec=4/\vc=0/\z'=y)\/((0<=v 0/\v 0<(y.ws t s.nm).length)/\ec=0/\vc=0/\z'=y.st t s.nm (v 0).toNat (v 1)))) \/
 (s.kd=4/\∃r,ec=cH r/\vc=dg r/\((v 0≠0/\Ev t fr n (.bl a) y r z')\/(v 0=0/\Ev t fr n (.bl b) y r z'))) \/
 (s.kd=5/\((v 0=0/\ec=0/\vc=0/\z'=y)\/(v 0≠0/\∃r,Ev t fr n (.bl a) y r z'/\((r=.on/\ec=1/\vc=0)\/(r ≠ .on/\ec=cH r/\vc=dg r))))) \/
 (s.kd=6/\ec=2/\vc=v 0/\z'=y) \/
 (s.kd=7/\ec=0/\vc=0/\z'={y with o:=y.o++[v 0]}) \/
 (s.kd=8/\ec=0/\vc=0/\z'=y)
def fT(s:St):Nat:=if s.kd=3 then 2 else 1
def Br(s:St)(i:Nat):List Nd:=if i=0 then s.e else s.f
theorem Lk.ops{n:Nat}{z:ES}{ec vc:Int}{z':ES}(h:Lk C.t C.fr n s a b z ec vc z')(hu:0<z.u)(hk:GJ C.t (z.l.map Prod.fst) s)(hs:stmtB s=true):∃st v j c s1,st 0=z.sp/\FO C n (fT s) (Br s) st v j c s1/\(c=2\/c=3)/\((j<fT s/\ec=c+1/\vc=0/\z'=s1)\/(j=fT s/\JX C.t C.fr n s a b v (st (fT s)) ec vc z')):=by
 have⟨Jh,Jf,Jg⟩:=mJ hs;have Jb:s.kd≠3->fT s=1:=λh=>by unfold fT;rw[if_neg h]
 have Jd:s.kd=3->fT s=2:=λh=>by unfold fT;rw[if_pos h]
 have Ja:∀(st:Nat->ES) (v:Nat->Int) (j:Nat) (c:Int) (s1:ES),st 0=z.sp->j<=fT s->(∀i,i<j->Ev C.t C.fr n (.e (Br s i)) (st i) (.val (v i)) (st (i+1)))->(j<fT s->Ev C.t C.fr n (.e (Br s j)) (st j) (.out c) s1)->FO C n (fT s) (Br s) st v j c s1:=λst v j c s1 e0 hj I J=>by refine⟨hj,I,J,λi hi=>?_,λi hi=>?_,by unfold fT;split <;> omega⟩;rw[e0];show wB C.t (z.l.map Prod.fst) _;unfold Br;split;exact hk.e;exact hk.f;unfold Br;split;exact Jf;refine Jg ?_;unfold fT at hi;by_cases h3:s.kd=3;exact h3;rw[if_neg h3]at hi;omega
 have Jc:∀ {x:Int} {z1:ES},s.kd≠3->Ev C.t C.fr n (.e s.e) z.sp (.val x) z1->FO C n (fT s) (Br s) (λi=>if i=0 then z.sp else z1) (λ_=>x) (fT s) 2 z1:=λ{x z1} h3 g=>by
  refine Ja _ _ _ _ _ rfl n_ (λi hi=>?_) (λh=>by omega);rw[Jb h3]at hi;obtain rfl:i=0:=by omega
  exact g
 have Je:∀ {c:Int} {z1:ES},Ev C.t C.fr n (.e s.e) z.sp (.out c) z1->∃st v j c' s1,st 0=z.sp/\FO C n (fT s) (Br s) st v j c' s1/\(c'=2\/c'=3)/\j<fT s/\c'=c/\s1=z1:=λ{c z1} g=>⟨λ_=>z.sp,λ_=>0,0,c,z1,rfl,Ja _ _ _ _ _ rfl y_ (λi hi=>by omega) (λ_=>g),g.outc c rfl,by unfold fT;split <;> omega,rfl,rfl⟩;rcases h with⟨h0,-⟩|⟨-,⟨h5,r,hE,rfl,rfl⟩|⟨h5,hw⟩⟩
 omega;cases hE using Ev_i with
 | pbad m _ _ _ _ c _ I=>obtain⟨st,v,j,c',s1,q1,q2,q3,q4,rfl,rfl⟩:=Je I;exact⟨st,v,j,c',s1,q1,q2,q3,.inl ⟨q4,rfl,rfl,rfl⟩⟩
 | decl m _ _ _ _ x z1 I J=>refine⟨_,_,_,2,_,rfl,Jc o_ J,.inl rfl,.inr ⟨rfl,.inl ⟨I,rfl,rfl,?_⟩⟩⟩;rw[Jb o_];rfl
 | set m _ _ _ _ x z1 I J=>refine⟨_,_,_,2,_,rfl,Jc o_ J,.inl rfl,.inr ⟨rfl,.inr (.inl ⟨I,rfl,rfl,?_⟩)⟩⟩;rw[Jb o_];rfl
 | sbad m _ _ _ _ x z1 c _ I J U=>refine⟨λi=>if i=0 then z.sp else z1,λ_=>x,1,c,z',rfl,Ja _ _ _ _ _ rfl (by rw[Jd I];omega) (λi hi=>?_) (λ_=>U),U.outc c rfl,.inl ⟨by rw[Jd I];omega,rfl,rfl,rfl⟩⟩;obtain rfl:i=0:=(by omega);exact J
 | smis m _ _ _ _ x z1 y _ I J U Z=>refine⟨λi=>if i=0 then z.sp else if i=1 then z1 else z',λi=>if i=0 then x else y,fT s,2,z',rfl,Ja _ _ _ _ _ rfl n_ (λi hi=>?_) (λh=>by omega),.inl rfl,.inr ⟨rfl,.inr (.inr (.inl ⟨I,.inl ⟨?_,rfl,rfl,?_⟩⟩))⟩⟩;rw[Jd I]at hi;have:i=0\/i=1:=(by omega);rcases this with rfl|rfl;exact J;exact U;rw[Jd I];exact Z;rw[Jd I];rfl
 | stor m _ _ _ _ x z1 y z2 I J U Z=>refine⟨λi=>if i=0 then z.sp else if i=1 then z1 else z2,λi=>if i=0 then x else y,fT s,2,z2,rfl,Ja _ _ _ _ _ rfl n_ (λi hi=>?_) (λh=>by omega),.inl rfl,.inr ⟨rfl,.inr (.inr (.inl ⟨I,.inr ⟨?_,rfl,rfl,?_⟩⟩))⟩⟩;rw[Jd I]at hi;have:i=0\/i=1:=(by omega);rcases this with rfl|rfl;exact J;exact U;rw[Jd I];exact Z;rw[Jd I];rfl
 | ifth m _ _ _ _ x z1 _ _ I J U Z=>refine⟨_,_,_,2,_,rfl,Jc o_ J,.inl rfl,.inr ⟨rfl,.inr (.inr (.inr (.inl ⟨I,r,rfl,rfl,.inl ⟨U,?_⟩⟩)))⟩⟩;rw[Jb o_];exact Z
 | ifel m _ _ _ _ z1 _ _ I J U=>refine⟨_,_,_,2,_,rfl,Jc o_ J,.inl rfl,.inr ⟨rfl,.inr (.inr (.inr (.inl ⟨I,r,rfl,rfl,.inr ⟨rfl,?_⟩⟩)))⟩⟩;rw[Jb o_];exact U
 | whno=>omega
 | whn=>omega
 | whdr=>omega
 | whag=>omega
 | retn m _ _ _ _ x _ I J=>refine⟨_,_,_,2,_,rfl,Jc o_ J,.inl rfl,.inr ⟨rfl,.inr (.inr (.inr (.inr (.inr (.inl ⟨I,rfl,rfl,?_⟩)))))⟩⟩;rw[Jb o_];rfl
 | tell m _ _ _ _ x z1 I J=>refine⟨_,_,_,2,_,rfl,Jc o_ J,.inl rfl,.inr ⟨rfl,.inr (.inr (.inr (.inr (.inr (.inr (.inl ⟨I,rfl,rfl,?_⟩))))))⟩⟩;rw[Jb o_];rfl
 | only m _ _ _ _ x _ I J=>refine⟨_,_,_,2,_,rfl,Jc o_ J,.inl rfl,.inr ⟨rfl,.inr (.inr (.inr (.inr (.inr (.inr (.inr ⟨I,rfl,rfl,?_⟩))))))⟩⟩;rw[Jb o_];rfl
 rcases hw with⟨c,I,rfl,rfl⟩|⟨I,rfl,rfl⟩|⟨x,z1,r,I,J,U,Z⟩;obtain⟨st,v,j,c',s1,q1,q2,q3,q4,rfl,rfl⟩:=Je I;exact⟨st,v,j,c',s1,q1,q2,q3,.inl ⟨q4,rfl,rfl,rfl⟩⟩;refine⟨_,_,_,2,_,rfl,Jc o_ I,.inl rfl,.inr ⟨rfl,.inr (.inr (.inr (.inr (.inl ⟨h5,.inl ⟨rfl,rfl,rfl,?_⟩⟩))))⟩⟩;rw[Jb o_];rfl;refine⟨_,_,_,2,_,rfl,Jc o_ I,.inl rfl,.inr ⟨rfl,.inr (.inr (.inr (.inr (.inl ⟨h5,.inr ⟨J,r,?_,Z⟩⟩))))⟩⟩;rw[Jb o_];exact U
def Jo(C:IC)(sv:BY)(s:St)(a b:List St)(us:Nat->BY):Prop:=
 (s.kd=1/\sv=.iface 164 (.agg #[sV s.nm,us 0])) \/
 (s.kd=2/\sv=.iface 165 (.agg #[sV s.nm,us 0])) \/
 (s.kd=3/\sv=.iface 167 (.agg #[sV s.nm,us 0,us 1])) \/
 (s.kd=4/\∃va vb La Lb,sv=.iface 155 (.agg #[us 0,va,vb])/\kr C.w0 C.S va La/\a=aG La/\kr C.w0 C.S vb Lb/\b=aG Lb) \/
 (s.kd=5/\∃va La,sv=.iface 160 (.agg #[us 0,va])/\kr C.w0 C.S va La/\a=aG La) \/
 (s.kd=6/\sv=.iface 129 (.agg #[us 0])) \/
 (s.kd=7/\sv=.iface 168 (.agg #[us 0])) \/
 (s.kd=8/\sv=.iface 169 (.agg #[us 0]))
theorem D6{l:List St}(h:Bv C.w0 C.S sv l):∃s a b us,wV l s a b/\Jo C sv s a b us/\∀i,i<fT s->Tv C.w0 C.S (us i) (Br s i):=by
 have I:∀ {s:St} {x:BY},s.kd≠3->Tv C.w0 C.S x s.e->∀i,i<fT s->Tv C.w0 C.S x (Br s i):=λ{s x} h3 hx i hi=>by
  unfold fT at hi;rw[if_neg h3]at hi;obtain rfl:i=0:=by omega
  exact hx
 cases h using Bv_i with
 | decl s x h1 h2 h3 h4=>exact⟨s,[],[],λ_=>x,⟨rfl,h3,h4⟩,.inl ⟨h1,rfl⟩,I o_ h2⟩
 | set s x h1 h2 h3 h4=>exact⟨s,[],[],λ_=>x,⟨rfl,h3,h4⟩,.inr (.inl ⟨h1,rfl⟩),I o_ h2⟩
 | store s x y h1 h2 h3 h4 h5=>
  refine⟨s,[],[],λi=>if i=0 then x else y,⟨rfl,h4,h5⟩,.inr (.inr (.inl ⟨h1,rfl⟩)),λi hi=>?_⟩;unfold fT at hi;rw[if_pos h1]at hi;have:i=0\/i=1:=by omega
  rcases this with rfl|rfl;exact h2;exact h3
 | ifs s x va vb A B vs us F H h1 h2 h3 h4 h5 h6 h7 h8=>exact⟨s,_,_,λ_=>x,⟨rfl,h7,h8⟩,.inr (.inr (.inr (.inl ⟨h1,va,vb,_,_,rfl,h3.toL h4,fF vs F A,h5.toL h6,fF us H B⟩))),I o_ h2⟩
 | whil s x va A vs F h1 h2 h3 h4 h5 h6=>exact⟨s,bW F A,[],λ_=>x,⟨i_,h5,h6⟩,.inr (.inr (.inr (.inr (.inl ⟨h1,va,_,rfl,h3.toL h4,fF vs F A⟩)))),I o_ h2⟩
 | ret s x h1 h2 h3 h4=>exact⟨s,[],[],λ_=>x,⟨rfl,h3,h4⟩,.inr (.inr (.inr (.inr (.inr (.inl ⟨h1,rfl⟩))))),I o_ h2⟩
 | out s x h1 h2 h3 h4=>exact⟨s,[],[],λ_=>x,⟨rfl,h3,h4⟩,.inr (.inr (.inr (.inr (.inr (.inr (.inl ⟨h1,rfl⟩)))))),I o_ h2⟩
 | call s x h1 h2 h3 h4=>exact⟨s,[],[],λ_=>x,⟨rfl,h3,h4⟩,.inr (.inr (.inr (.inr (.inr (.inr (.inr ⟨h1,rfl⟩)))))),I o_ h2⟩
def BJ(t:JZ)(x:BY)(f:Nat):Prop:=(∀W:AT,(method 392 t x "loop.example/s01725/impl.expressions").run prog W=.ok (f,x) W)/\∀(y:BY) (W:AT),(callFunc f #[y]).run prog W=.ok (.enter f #[y]) W
def Gt(t:JZ)(x:BY)(f:Nat)(h1:∀W:AT,(method 392 t x "loop.example/s01725/impl.expressions").run prog W=.ok (f,x) W) (h2:∀(y:BY) (W:AT),(callFunc f #[y]).run prog W=.ok (.enter f #[y]) W):BJ t x f:=⟨h1,h2⟩
def v_(U:C.Ok){us:Nat->BY}(hV:Jo C sv s a b us)(Jd:∀i,i<fT s->∃t x,us i=.iface t x):∃t x f,sv=.iface t x/\BJ t x f/\OpC C f x (fT s) us:=by
 have Ja:s.kd≠3->fT s=1:=λh=>by unfold fT;rw[if_neg h]
 have Jc:s.kd=3->fT s=2:=λh=>by unfold fT;rw[if_pos h]
 have⟨t,x,I⟩:=Jd 0 (by unfold fT;split <;> omega);rcases hV with⟨J,rfl⟩|⟨J,rfl⟩|⟨J,rfl⟩|⟨J,va,vb,La,Lb,rfl,Z,-,hB,-⟩|⟨J,va,La,rfl,Z,-⟩|⟨J,rfl⟩|⟨J,rfl⟩|⟨J,rfl⟩
 rw[Ja o_,I];exact⟨_,_,199,rfl,Gt _ _ _ (λW=>by kernel_rfl) (λy W=>by kernel_rfl),D_ U s.nm t x us I⟩;rw[Ja o_,I];exact⟨_,_,200,rfl,Gt _ _ _ (λW=>by kernel_rfl) (λy W=>by kernel_rfl),FX U s.nm t x us I⟩
 have⟨t2,x2,Jb⟩:=Jd 1 (by rw[Jc J];omega);rw[Jc J,I,Jb];exact⟨_,_,201,rfl,Gt _ _ _ (λW=>by kernel_rfl) (λy W=>by kernel_rfl),Bo U s.nm t x t2 x2 us I Jb⟩
 obtain⟨a1,c1,rfl,-⟩:=Z.args;obtain⟨a2,c2,rfl,-⟩:=hB.args;rw[Ja o_,I];exact⟨_,_,196,rfl,Gt _ _ _ (λW=>by kernel_rfl) (λy W=>by kernel_rfl),Ie U a1 _ c1 a2 _ c2 t x us I⟩;obtain⟨a1,c1,rfl,-⟩:=Z.args;rw[Ja o_,I];exact⟨_,_,198,rfl,Gt _ _ _ (λW=>by kernel_rfl) (λy W=>by kernel_rfl),Bq U a1 _ c1 t x us I⟩;rw[Ja o_,I];exact⟨_,_,194,rfl,Gt _ _ _ (λW=>by kernel_rfl) (λy W=>by kernel_rfl),x_ U t x us I⟩;rw[Ja o_,I];exact⟨_,_,202,rfl,Gt _ _ _ (λW=>by kernel_rfl) (λy W=>by kernel_rfl),FY U t x us I⟩;rw[Ja o_,I];exact⟨_,_,203,rfl,Gt _ _ _ (λW=>by kernel_rfl) (λy W=>by kernel_rfl),D0 U t x us I⟩
end
def pX(r:ER):Int:=if cH r=0 then 1 else cH r
def D7{C:IC}(hC:C.Ok){w:AT}{q:Nat}{vI vO:BY}{z z':ES}{r:ER}(h:IS C w (some q) vI vO z){t:JZ}{x:BY}{Z:Option Addr}{n1 c1:Nat}(Xe:∀X,IS C X (some q) vI vO z->Calls prog 53 #[pV C.P,.slice Z n1 c1] X λx w'=>qE C X q vO (cH r) (dg r) z' x w'):
  Calls prog 106 #[pV C.P,.agg #[.iface t x,.slice Z n1 c1]] w λx w'=>qE C w q vO (pX r) (dg r) z' x w':=by
 have⟨W0,Jc⟩:=q_ ((w.alloc (.cells #[.iface t x,.slice Z n1 c1] 160)).alloc (.cells #[V 0,V 0] 65));have⟨B,hB⟩:=q_ w.heap.size;have Jh:Bl w (w.alloc (.cells #[.iface t x,.slice Z n1 c1] 160)):=ao _ _;have Jp:Bl w W0:=by rw[Jc];exact Jh.alloc Jh.size _
 have Jm:aN W0 (B+1) [V 0,V 0]:=by rw[Jc,hB];have:=aI (w.alloc (.cells #[.iface t x,.slice Z n1 c1] 160)) #[V 0,V 0] 65 i_;rw[J9]at this;exact this
 have Xc:aN W0 B [.iface t x,.slice Z n1 c1]:=by rw[Jc,hB];exact(aI w #[.iface t x,.slice Z n1 c1] 160 i_).below (ao _ _)
 have Jq:B+1<W0.heap.size:=b_ (Jm 0 _ rfl).1;have Xn:¬dT C (some q) vO (B+1):=λhk=>Ka (dT.lt hC h _ hk)
 have Jz:w.heap.size<=B+1:=o_;have⟨Xk,H0,HC,Xh,Xi,Jv,Xm⟩:=h7 (Xe W0 (h.below hC Jp)) h hC Jc hB Jp Jm;have x1:=(Xc 1 _ rfl).1;clear h hC Xe Jc hB Jp Jm Xc Jh;go_in;go_upto_region 1 with fail;rw[<-Xh.out,<-Xi.out];go_wp2_with fail;refine Xk.out.mono ?_;rintro e w2 ⟨Xf,Xg,rfl,Jy,Jr,Xd⟩;have⟨J,Jo⟩:=q_ (cH r);have⟨U,Ju⟩:=q_ (dg r);rw[<-Jo,<-Ju];have⟨W3,Jf⟩:=q_ (w2.alloc (.cells #[V J,V U] 65));have Jt:Bl w2 W3:=by rw[Jf];exact r_.alloc n_ _
 have Ja:aN W3 w2.heap.size [V J,V U]:=by rw[Jf];exact aI w2 _ _ i_
 have⟨I,Jg⟩:=q_ w2.heap.size;rw[<-Jg]at Ja;have Jn:=Xm.out.tcs Jq Jr Xn;have Xl:I≠B+1:=by have:=b_ (Jn 0 _ rfl).1;rw[Jg];intro e;have e':w2.heap.size=B+1:=e;have t':B+1<w2.heap.size:=this;omega
 have Je:=Jn.below Jt;have⟨Xp,J_,Jb,Jj,Jw,Ji,Xj,Jl,Js,Jx⟩:=h10 Ja Je Jy Jr Xd Jt Jf Jg Jo Ju;have⟨y0,f0⟩:=Je 0 _ rfl;have⟨y1,f1⟩:=Je 1 _ rfl;have⟨z0,g0⟩:=Ja 0 _ rfl;have⟨z1,g1⟩:=Ja 1 _ rfl;clear Jy Jr Xd Jt Jf Jg Jo Ju Ja Je Jn x1;go_upto_region 2 with fail;rw[<-Xj.out,<-Jl.out];by_cases hz:J=0
 ·have e1:pX r=1:=by unfold pX;rw[if_pos (by rw[<-Js.out];exact hz)]
  have Xo:(J == 0)=true:=IN hz;have hT:aj (λk=>k=I) W3 (W3.setCell ⟨I,0,none⟩ (V 1)):=(aj.refl (λk=>k=I) W3).setCell (p:=⟨I,0,none⟩) rfl _;have Xa:IS C (W3.setCell ⟨I,0,none⟩ (V 1)) (some q) Xf Xg z':=(Jb.out.below HC Ji).past HC hT (λk hk=>by
   have e:k=I:=hk;have:=Jl.out;refine⟨by have:=(Jb.out.hi HC.out).2.2;omega,λe2=>?_,λe2=>?_⟩
   have:=dT.lt HC.out Jb.out k (.inr e2);omega
   have:=(World.ownsRow.lt Jb.out.out k e2).2;omega)
  have Xb:aj (dT C (some q) vO) W0 (W3.setCell ⟨I,0,none⟩ (V 1)):=(Jj.out.of_below Ji).next hT (λk hk=>.inr (by have e:k=I:=hk;have:=Jl.out;have:=Jj.out.size;omega));have Jk:=ah (eM HC Jz H0 Jv Jq Xa Xb Jw r_ (J_.out.tcs (b_ y0) hT (λe=>Xl e.symm)) 1 U);have Jd:Hid (pX r=1/\dg r=U):=⟨e1,Jx.out.symm⟩;clear Xa hT Xb e1 hz;go_wp2_with fail;obtain⟨t0,t1,hQ⟩:=Jk;refine bodyPost_ret (v:=.agg #[V 1,V U]) (by simp[results,results106,go_sem,t0,t1]) rfl ?_;rw[Jd.out.1,Jd.out.2];exact hQ
 have e1:pX r=J:=by unfold pX;rw[if_neg (by rw[<-Js.out];exact hz),Js]
 have Xo:(J == 0)=false:=IN hz;have Jk:=ah (eM HC Jz H0 Jv Jq Jb Jj Jw Ji J_ J U);have Jd:Hid (pX r=J/\dg r=U):=⟨e1,Jx.out.symm⟩;clear e1 hz;go_wp2_with fail;obtain⟨t0,t1,hQ⟩:=Jk;refine bodyPost_ret (v:=.agg #[V J,V U]) (by simp[results,results106,go_sem,t0,t1]) rfl ?_;rw[Jd.out.1,Jd.out.2];exact hQ
section
variable{C:IC}{vO vI vI' vO':BY}{q M A:Nat}{W0 w w':AT}{vV:Option Nat}{st:Nat->ES}{v:Nat->Int}{c:Int}{s1:ES}{x:Ending}
def jO{Jb:BY}{w1 U w3:AT}(Z:Hid (aj (de C vO) W0 w1))(hM:Hid (aN w1 M [V 0,V 0]))(h2:Hid (Bl w1 U))(Je:M<W0.heap.size)(Jc:¬dT C (some q) vO M)(Ja:aj (de C vO) U w3)(Jd:∀k,Jb.ownBlock=some k->vO.ownBlock=some k\/U.heap.size<=k):
  Hid (aj (de C vO) W0 w3)/\Hid (aN w3 M [V 0,V 0])/\Hid (∀k,Jb.ownBlock=some k->vO.ownBlock=some k\/W0.heap.size<=k)/\Hid (aj (dT C (some q) vO) W0 w3)/\(DO w3 M 0 (V 0)/\D4 w3 M 0)/\(DO w3 M 1 (V 0)/\D4 w3 M 1)/\W0.heap.size<=w3.heap.size:=by
 have z1:=Z.o.size;have z2:=h2.o.size;have I:aj (de C vO) W0 w3:=(Z.o.of_below h2.o).trans Ja;have J:aN w3 M [V 0,V 0]:=(hM.o.below h2.o).tcs o_ Ja (λe=>Jc (.inl e));exact⟨I,J,λk hk=>(Jd k hk).imp id (λh=>by omega),dT.of I,J 0 _ rfl,J 1 _ rfl,I.size⟩
def x8{vO2:BY}(h:¬dT C (some q) vO w.heap.size)(hM:¬dT C (some q) vO M)(hM0:M<W0.heap.size)(ho:∀k,vO2.ownBlock=some k->vO.ownBlock=some k\/W0.heap.size<=k):¬dT C (some q) vO2 M:=λhk=>by rcases hk with hk|hk;rcases hk with h1|h1|h1;exact hM (.inl (.inl h1));exact hM (.inl (.inr (.inl h1)));rcases ho M h1 with h2|h2;exact hM (.inl (.inr (.inr h2)));omega;exact hM (.inr hk)
def map_cell{n:Nat}{D:DataW Unit}(h:w.ownsMap prog 9 (plainElem (H:=Unit) prog 2) q n D)(j:Nat):w.cell? ⟨q,j,none⟩=none:=by obtain⟨J,Ja,I,-⟩:=h;simp[cell?,I]
def D8{z:ES}(h:IS C w (some q) vI vO z)(j:Nat):w.cell? ⟨q,j,none⟩=none:=by rcases h.var with⟨e,-⟩|⟨b,n,D,e,I,-⟩;cases e;cases e;exact map_cell I j
def pY(h:(A=A/\∃a n cp,x=rW (.tuple #[.slice a n cp,V 0])/\IS C w' vV vI' vO' (st A)/\qD C w' vO' (.slice a n cp) (e_ A v))\/(A<A/\x=rW (.tuple #[nV,V (c+1)])/\IS C w' vV vI' vO' s1))(J:A=1):
  ∃bv cp,x=rW (.tuple #[rV bv 1 cp,V 0])/\IS C w' vV vI' vO' (st A)/\bv<w'.heap.size/\¬de C vO' bv/\DO w' bv 0 (V (v 0)):=by
 rcases h with⟨-,a,n,cp,rfl,I,h2⟩|⟨h,-⟩;have Jc:e_ A v=[v 0]:=by rw[J];simp[e_]
 rw[Jc]at h2;obtain⟨av,U,Ja,-,-,Jd⟩:=h2;simp only[Value.slice.injEq,l_c,l_n,Nat.zero_add]at Ja;obtain⟨rfl,rfl,rfl⟩:=Ja;obtain⟨bv,rfl,Je,Jf,Jb⟩:=Jd i_;exact⟨bv,cp,rfl,I,Je,Jf,Jb 0 i_⟩;omega
def Ig(h:(A=A/\∃a n cp,x=rW (.tuple #[.slice a n cp,V 0])/\IS C w' vV vI' vO' (st A)/\qD C w' vO' (.slice a n cp) (e_ A v))\/(A<A/\x=rW (.tuple #[nV,V (c+1)])/\IS C w' vV vI' vO' s1))(J:A=2):
  ∃bv cp,x=rW (.tuple #[rV bv 2 cp,V 0])/\IS C w' vV vI' vO' (st A)/\bv<w'.heap.size/\¬de C vO' bv/\DO w' bv 0 (V (v 0))/\DO w' bv 1 (V (v 1)):=by
 rcases h with⟨-,a,n,cp,rfl,I,h2⟩|⟨h,-⟩;have Jc:e_ A v=[v 0,v 1]:=by rw[J];rfl
 rw[Jc]at h2;obtain⟨av,U,Jb,-,-,Jd⟩:=h2;simp only[Value.slice.injEq,l_c,l_n,Nat.zero_add]at Jb;obtain⟨rfl,rfl,rfl⟩:=Jb;obtain⟨bv,rfl,Je,Jf,Ja⟩:=Jd i_;exact⟨bv,cp,rfl,I,Je,Jf,Ja 0 i_,Ja 1 i_⟩;omega
def FZ(hC:C.Ok){s:ES}(v:Int)(h:IS C w (some q) vI vO s)(hu:s.o.length+1+s.u<=100000):
  ∃va vc w3,(Builtin.append_ #[34,34] 34 #[vO,rV w.heap.size 1 1]).run prog (w.alloc (.cells #[V v] 2))=.ok (.slice va (s.o.length+1) vc) w3/\IS C (w3.setCell ⟨C.P,7,none⟩ (.slice va (s.o.length+1) vc)) (some q) vI (.slice va (s.o.length+1) vc) {s with o:=s.o++[v]}/\(w3.cell? ⟨C.P,7,none⟩=some vO/\w3.frozen? ⟨C.P,7,none⟩=false)/\aj (de C vO) w w3/\aj (de C vO) w (w3.setCell ⟨C.P,7,none⟩ (.slice va (s.o.length+1) vc))/\∀k,(Value.slice va (s.o.length+1) vc).ownBlock=some k->vO.ownBlock=some k\/w.heap.size<=k:=by
 have⟨p1,p2,p3⟩:=h.hi hC;have⟨q1,q2,q3,q4,q5⟩:=hC.pg;have Je:=h.uu;have⟨va,vc,w3,r1,r2,I,r4⟩:=zw h.out v p3 o_;have Jb:=λk hk=>World.ownsRow.lt h.out k hk;have Jf:¬vO.ownBlock=some C.P:=λe=>by have:=(Jb _ e).1;omega
 have Jc:=h.box.tcs p1 I Jf;have Z:aj (λk=>k=C.P) w3 (w3.setCell ⟨C.P,7,none⟩ (.slice va (s.o.length+1) vc)):=(aj.refl (λk=>k=C.P) w3).setCell (p:=⟨C.P,7,none⟩) rfl _;have J:aj (λk=>vO.ownBlock=some k\/k=C.P) w (w3.setCell ⟨C.P,7,none⟩ (.slice va (s.o.length+1) vc)):=(I.mono (λk hk=>.inl hk)).next Z (λk hk=>.inl (.inr hk));have tE:aj (de C vO) w w3:=I.mono λk hk=>.inr (.inr hk);refine⟨va,vc,w3,r1,⟨h.tc.next J (λk hk=>?_),Jc.set 7 _,h.gl,λk hk=>(h.gw k hk).tcs (p2 _ (g_ hk)).1 J (λhs=>?_),h.g1,?_,h.inp,?_,⟨h.ok.g,h.ok.l,h.ok.i⟩,⟨Je.1,?_⟩,h.nn⟩,Jc 7 _ rfl,tE,tE.setCell (p:=⟨C.P,7,none⟩) (.inl rfl) _,λk hk=>(r4 k hk).imp_right (λU=>by omega)⟩
 rcases hk with hk|hk;exact .inr (Jb k hk).1;exact .inl (.inl hk)
 ·rcases hs with hs|hs
  ·have:=(Jb _ hs).1;have:=(q5 _ (g_ hk)).2;omega
  exact(p2 _ (g_ hk)).2 hs
 rcases h.var with⟨e,-⟩|⟨b,n,D,e,U,h2,h3,h4,h5⟩;cases e;cases e;have Jd:=U.lt;obtain⟨es,Ja,h0,F,hs,hD⟩:=U;refine .inr ⟨q,n,D,rfl,⟨es,Ja,(J.block q Jd (λhs=>?_)).trans h0,F,hs,hD⟩,h2,h3,h4,λe=>?_⟩;rcases hs with hs|hs;exact h5 hs;omega;rcases r4 q e with h6|h6;exact h5 h6;omega
 ·show World.ownsRow _ _ _ _ _ (s.o++[v]).length ((s.o++[v]).map _);rw[l_a,List.map_append];exact fP r2 Z (λk hk hs=>by have e:k=C.P:=hs;have:=(World.ownsRow.lt r2 k hk).1;omega)
 show(s.o++[v]).length+s.u<=100000;rw[l_a,List.length_singleton];exact hu
end
section
variable{C:IC}{w:AT}{q A f:Nat}{vI vO xu:BY}{z s1:ES}{us:Nat->BY}{st:Nat->ES}{v:Nat->Int}{tu:JZ}
def F_(I:C.Ok)(h:IS C w (some q) vI vO z)(hu:0<z.u)(hF:BJ 169 (.agg #[.iface tu xu]) f)(hO:OpC C f (.agg #[.iface tu xu]) A us)(Jv:∀(X:AT) (ar:BY),IS C X (some q) vI vO z.sp->wD C X vO ar A us->Calls prog 103 #[pV C.P,ar] X λx w'=>wE C X (some q) vO A st v A 2 s1 x w'):
  Calls prog 78 #[pV C.P,.iface 169 (.agg #[.iface tu xu])] w λx w'=>qE C w q vO 0 0 (st A) x w':=by
 obtain⟨hm,Xr⟩:=hF;have⟨W0,M,Jm,J,Jf,Ju,Jg⟩:=iA w;have Xb:w.heap.size<=M:=Nat.le_of_eq J.symm;have Js:¬dT C (some q) vO M:=λhk=>Ka (dT.lt I h M hk)
 have⟨Xj,Jl,H0,HC,J_,Jk,HM,Xa,Ji⟩:=h9 (fh I (h.below I Jf) hu) hO h I Jm Jf J Ju Jv;have Je:=λW v=>ch W 169 v d_;have Jt:=λW v=>dq W 169 v d_;have Jc:=λW v=>cT W 169 v d_;have Xm:=λW v=>em W 169 v d_;have Jd:=λW v=>eo W 169 v d_;have Jb:=λW v=>fN W 169 v d_;have Jj:=λW v=>qS W 169 v d_;clear h I hO Jv Jm Jf J Ju hu;go_in;go_upto_region 1 with fail;rw[<-J_.o,<-HM.o];go_wp2_with fail;refine Xj.o.mono ?_;rintro e w1 ⟨rfl,Jn,Jp⟩;have⟨Xh,Jx,Xk,Jq⟩:=h4 Jn Jp (Xa.o.tcs Jg Jp (λe=>Js (.inl e))) (Jl w1 (some q) vI vO z.sp Jn);go_wp2_with fail;refine Jq.o.mono ?_;rintro e w2 ⟨a,Z,rfl,hL,Jh⟩;have⟨Xc,Xi⟩:=h2 (Ji w2 _ (Xh.o.below HC Jh) hL) Jh;clear hL Jh Ji Jl Jq;go_wp2_with fail;refine Xc.o.mono ?_;rintro e w3 ⟨Xf,Jr,Xl,Jy,Ja⟩;have⟨Xg,Xe,Xn,Jw,⟨y0,f0⟩,⟨y1,f1⟩,Xo⟩:=jO Jx Xk Xi Jg Js Xl Jy;obtain⟨a2,n2,c2,rfl,Jo,Xd⟩:∃a n Z,e=rW (.tuple #[.slice a n Z,V 0])/\IS C w3 (some q) Xf Jr (st A)/\qD C w3 Jr (.slice a n Z) (e_ A v):=by rcases Ja with⟨-,a2,n2,c2,e1,e2,e3⟩|⟨hj,-⟩;exact⟨a2,n2,c2,e1,e2,e3⟩;omega
 have⟨Xq,Xp⟩:=h2 Jo Xd;have U:aj (de C vO) w w3:=(Jk.o.tcs (S:=de C vO)).trans Xg;clear Ja U;have Jz:=ah (eM HC Xb H0 Jk Jg Jo Jw Xn r_ Xe 0 0);go_wp2_with fail;obtain⟨t0,t1,hQ⟩:=Jz;exact bodyPost_ret (v:=.agg #[V 0,V 0]) (by simp[results,results78,go_sem,t0,t1]) rfl hQ
def Bt(I:C.Ok)(h:IS C w (some q) vI vO z)(hu:0<z.u)(hA:A=1)(hF:BJ 129 (.agg #[.iface tu xu]) f)(hO:OpC C f (.agg #[.iface tu xu]) A us)(Xf:∀(X:AT) (ar:BY),IS C X (some q) vI vO z.sp->wD C X vO ar A us->Calls prog 103 #[pV C.P,ar] X λx w'=>wE C X (some q) vO A st v A 2 s1 x w'):
  Calls prog 78 #[pV C.P,.iface 129 (.agg #[.iface tu xu])] w λx w'=>qE C w q vO 2 (v 0) (st A) x w':=by
 obtain⟨hm,X_⟩:=hF;have⟨W0,M,Jz,hM,Jm,Jw,Jo⟩:=iA w;have Xk:w.heap.size<=M:=Nat.le_of_eq hM.symm;have Xa:¬dT C (some q) vO M:=λhk=>Ka (dT.lt I h M hk)
 have⟨Jv,Xd,H0,HC,Xu,Jy,HM,Xr,Js⟩:=h9 (fh I (h.below I Jm) hu) hO h I Jz Jm hM Jw Xf;have Jj:=λW v=>ch W 129 v d_;have Xb:=λW v=>dq W 129 v d_;have Jh:=λW v=>cT W 129 v d_;have Xo:=λW v=>em W 129 v d_;have Ji:=λW v=>eo W 129 v d_;have Jd:=iB;have HA:=ah hA;clear hA;clear h I hO Xf Jz Jm hM Jw hu;go_in;go_upto_region 1 with fail;rw[<-Xu.o,<-HM.o];go_wp2_with fail;refine Jv.o.mono ?_;rintro e w1 ⟨rfl,Jk,Jr⟩;have⟨Xm,Xh,Xw,Ju⟩:=h4 Jk Jr (Xr.o.tcs Jo Jr (λe=>Xa (.inl e))) (Xd w1 (some q) vI vO z.sp Jk);clear Jk Jr Jv;go_wp2_with fail;refine Ju.o.mono ?_;rintro e w2 ⟨a,cp,rfl,hL,Jp⟩;have⟨J_,Xt⟩:=h2 (Js w2 _ (Xm.o.below HC Jp) hL) Jp;clear hL Jp Js Xd Ju;go_wp2_with fail;refine J_.o.mono ?_;rintro e w3 ⟨Yf,Yc,Xc,Xe,Ja⟩;have⟨Xl,Xv,Xp,Xg,⟨y0,f0⟩,⟨y1,f1⟩,Xx⟩:=jO Xh Xw Xt Jo Xa Xc Xe;clear Xc Xe J_;obtain⟨Z,cw,rfl,Jn,Jb,Xy,Je⟩:=pY Ja HA;have J:aj (de C vO) w w3:=(Jy.o.tcs (S:=de C vO)).trans Xl;clear Ja J;have⟨W4,Jg⟩:=q_ (w3.alloc (.cells #[.iface tu xu] 129));have Jc:Bl w3 W4:=by rw[Jg];exact r_.alloc n_ _
 have Jl:aN W4 w3.heap.size [.iface tu xu]:=by rw[Jg];exact aI w3 _ _ i_
 have⟨B,U⟩:=q_ w3.heap.size;rw[<-U]at Jl;have Ya:B≠M:=o_;have Ye:¬M=B:=o_;have Jt:=Jn.below HC Jc;have Jf:=Xv.o.below Jc;have⟨Xi,Yd,Xn,Xj,Xz,Xq⟩:=h6 Jc Jl Jg U Jt Jf;clear y0 f0 y1 f1;have⟨y0,f0⟩:=Jf 0 _ rfl;have⟨y1,f1⟩:=Jf 1 _ rfl;have Yb:Z<W4.heap.size:=l_ Jb Jc.size;have Jq:DO W4 Z 0 (V (v 0)):=(Jc.cell (p:=⟨Z,0,none⟩) Jb).trans Je;clear Je Jb;have Jx:=ah (eM HC Xk H0 Jy Jo Jn Xg Xp Xi Xq 2 (v 0));generalize hv0:v 0=v0 at Jx Jq;have Xs:=ah hv0;clear Jn Jt Jc Jl Jg U Jf hv0;go_upto_region 30 with fail;rw[<-Xn.o,<-Xj.o];go_wp2_with fail;obtain⟨t0,t1,hQ⟩:=Jx;refine bodyPost_ret (v:=.agg #[V 2,V v0]) (by simp[results,results78,go_sem,t0,t1]) rfl ?_;rw[Xs.o];exact hQ
end
end
section
variable{T:JZ}{xs:List BY}{f:Nat}
def Ii(h:BJ T (.agg xs.toArray) f)(w:AT)(I:xs.toArray.size<=1000:=by simp):∃W,W=w.alloc (.cells xs.toArray T)/\aN W w.heap.size xs:=⟨_,rfl,aI w xs.toArray T I⟩
theorem D9{C:IC}(U:C.Ok){w:AT}{q:Nat}{vI I:BY}{z:ES}(h:IS C w (some q) vI I z)(hu:0<z.u){A:Nat}{us:Nat->BY}{st:Nat->ES}{v:Nat->Int}{s1:ES}{tu:JZ}{xu:BY}{fn:Nat}{Jl:BY}{b:Bool}(hT:(T=155/\fn=53/\∃a1 n1 c1 a2 n2 c2,xs=[.iface tu xu,.slice a1 n1 c1,.slice a2 n2 c2]/\(b=true/\Jl=.slice a1 n1 c1\/b=false/\Jl=.slice a2 n2 c2))\/(T=160/\fn=106/\∃a1 n1 c1,xs=[.iface tu xu,.slice a1 n1 c1]/\b=true/\Jl=.agg #[.iface tu xu,.slice a1 n1 c1]))(hA:A=1){ec vc:Int}{z':ES}(hv:(v 0 != 0)=b)(Xr:∀(X:AT) (vI3 vO3:BY),IS C X (some q) vI3 vO3 (st A)->Calls prog fn #[pV C.P,Jl] X λx w'=>qE C X q vO3 ec vc z' x w')(hF:BJ T (.agg xs.toArray) f)(hO:OpC C f (.agg xs.toArray) A us)(Xs:∀(X:AT) (ar:BY),IS C X (some q) vI I z.sp->wD C X I ar A us->Calls prog 103 #[pV C.P,ar] X λx w'=>wE C X (some q) I A st v A 2 s1 x w'):
  Calls prog 78 #[pV C.P,.iface T (.agg xs.toArray)] w λx w'=>qE C w q I ec vc z' x w':=by
 rcases hT with⟨rfl,rfl,a1,n1,c1,a2,n2,c2,rfl,⟨rfl,rfl⟩|⟨rfl,rfl⟩⟩|⟨rfl,rfl,a1,n1,c1,rfl,rfl,rfl⟩;all_goals
  have Ye:=ah hF;obtain⟨hm,Yn⟩:=hF;have⟨W0,M,Xk,hM,Js,Xf,Jh⟩:=iA w;have Xx:w.heap.size<=M:=Nat.le_of_eq hM.symm;have Jy:¬dT C (some q) I M:=λhk=>Ka (dT.lt U h M hk)
  have Xe:=ah (fh U (h.below U Js) hu);have Xp:=ah hO;have H0:=ah h;have HC:=ah U;have Yh:=ah Xk;have Xi:=ah Js;have HM:=ah hM;have Yd:=ah Xf;have J_:=ah Xs;have Jm:=λW v=>ch W 155 v d_;have Xn:=λW v=>dq W 155 v d_;have Jj:=λW v=>cT W 155 v d_;have Ya:=lO;have Ji:=λW v=>ch W 160 v d_;have Jw:=λW v=>dq W 160 v d_;have Jd:=λW v=>cT W 160 v d_;have Xj:=λW v=>em W 160 v d_;have Jk:=gJ;have HA:=ah hA;clear hA;clear h U hO Xs Xk Js hM Xf hu;go_in;go_upto_region 1 with fail;rw[<-Yh.o,<-HM.o];go_wp2_with fail;refine Xe.o.mono ?_;rintro e w1 ⟨rfl,Jn,Jx⟩;have Xz:=ah Jn;have Xu:=ah Jx;have Yl:=ah (Yd.o.tcs Jh Jx (λe=>Jy (.inl e)));have Xd:=ah (Xp.o w1 (some q) vI I z.sp Jn);clear Jn Jx Xe;go_wp2_with fail;refine Xd.o.mono ?_;rintro e w2 ⟨a,cp,rfl,hL,Ju⟩;have Xl:=ah (J_.o w2 _ (Xz.o.below HC.o Ju) hL);have Yg:=ah Ju;clear hL Ju J_ Xp Xd;go_wp2_with fail;refine Xl.o.mono ?_;rintro e w3 ⟨vI3,vO3,Xo,Xq,Ja⟩;have⟨Xy,Yj,Jq,Xt,⟨J,f0⟩,⟨Z,f1⟩,Xv⟩:=jO Xu Yl Yg Jh Jy Xo Xq;clear Xo Xq Xl;obtain⟨bv,cw,rfl,Xh,Jb,Ym,Je⟩:=pY Ja HA;have hI0:aj (de C I) w w3:=(Xi.o.tcs (S:=de C I)).trans Xy;clear Ja hI0;have⟨W4,Jr,Jo⟩:=Ii Ye.o w3;have Jc:Bl w3 W4:=by rw[Jr];exact r_.alloc n_ _
  have⟨B,hB⟩:=q_ w3.heap.size;rw[<-hB]at Jo;have Yo:B≠M:=o_;have Yq:¬M=B:=o_;have Xc:=Xh.below HC.o Jc;have Jf:=Yj.o.below Jc;have Xa:=ah Jc;have Jz:=ah Jo;have X_:=ah Jr;have Xw:=ah hB;have Yc:=ah Jf;clear J f0 Z f1;have⟨J,f0⟩:=Jf 0 _ rfl;have⟨Z,f1⟩:=Jf 1 _ rfl;have Yp:bv<W4.heap.size:=l_ Jb Jc.size;have Jv:DO W4 bv 0 (V (v 0)):=(Jc.cell (p:=⟨bv,0,none⟩) Jb).trans Je;clear Je Jb;have Yi:=ah (Xr W4 vI3 vO3 Xc);have Jt:¬dT C (some q) vO3 M:=x8 (w:=w) (λhk=>Ka (dT.lt HC.o H0.o _ hk)) Jy Jh Jq;have Yk:=ah (Xt.o.of_below Xa);have Yf:M<W4.heap.size:=b_ J;have x0:=(Jz.o 0 _ rfl).1;have x1:=(Jz.o 1 _ rfl).1;generalize hv0:v 0=v0 at hv Jv;clear Xr Xh Xc Jc Jo Jr hB Jf hv0 J f0 Z f1;first
  | (have x2:=(Jz.o 2 _ rfl).1;go_upto_region 21 with fail)
  | go_upto_region 26 with fail
  rw[<-X_.o,<-Xw.o];go_wp2_with fail;refine Yi.o.mono ?_;rintro e w5 ⟨Yr,Ys,rfl,Xg,Jp,Xb⟩;have Jg:=Yc.o.tcs Yf Jp Jt;have Xm:=dT.next Yk.o Jp Jq;have Yb:=ah (eM HC.o Xx H0.o Xi.o Jh Xg Xm (λk hk=>by rcases Xb k hk with h1|h1;exact Jq.o k h1;exact .inr (t_ (t_ Xv Xa.o.size) h1)) r_ Jg ec vc)
  have⟨J,f0⟩:=Jg 0 _ rfl;have⟨Z,f1⟩:=Jg 1 _ rfl;clear Xg Jp Xb Jg Xm;go_wp2_with fail;have⟨t0,t1,hQ⟩:=Yb.o;exact bodyPost_ret (v:=.agg #[V ec,V vc]) (by simp[results,results78,go_sem,t0,t1]) rfl hQ
end
def Bu{C:IC}(J:C.Ok){w:AT}{q:Nat}{vI I:BY}{z:ES}(h:IS C w (some q) vI I z)(hu:0<z.u){A:Nat}{f:Nat}{us:Nat->BY}{st:Nat->ES}{v:Nat->Int}{s1:ES}{U:JZ}{xu:BY}{a1:Option Addr}{n1 Z:Nat}(hA:A=1)(hv:v 0=0)(hF:BJ 160 (.agg #[.iface U xu,.slice a1 n1 Z]) f)(hO:OpC C f (.agg #[.iface U xu,.slice a1 n1 Z]) A us)(Xd:∀(X:AT) (ar:BY),IS C X (some q) vI I z.sp->wD C X I ar A us->Calls prog 103 #[pV C.P,ar] X λx w'=>wE C X (some q) I A st v A 2 s1 x w'):
  Calls prog 78 #[pV C.P,.iface 160 (.agg #[.iface U xu,.slice a1 n1 Z])] w λx w'=>qE C w q I 0 0 (st A) x w':=by
 obtain⟨hm,Xy⟩:=hF;have⟨W0,M,Jx,hM,Jl,Jv,Jn⟩:=iA w;have Xi:w.heap.size<=M:=Nat.le_of_eq hM.symm;have Jz:¬dT C (some q) I M:=λhk=>Ka (dT.lt J h M hk)
 have⟨Ju,Xb,H0,HC,Xs,Jw,HM,Xq,Jr⟩:=h9 (fh J (h.below J Jl) hu) hO h J Jx Jl hM Jv Xd;have Ji:=λW v=>ch W 160 v d_;have J_:=λW v=>dq W 160 v d_;have Jg:=λW v=>cT W 160 v d_;have Xm:=λW v=>em W 160 v d_;have Jh:=gJ;have HA:=ah hA;clear hA;clear h J hO Xd Jx Jl hM Jv hu;go_in;go_upto_region 1 with fail;rw[<-Xs.o,<-HM.o];go_wp2_with fail;refine Ju.o.mono ?_;rintro e w1 ⟨rfl,Jj,Jq⟩;have⟨Xk,Xf,Xu,Jt⟩:=h4 Jj Jq (Xq.o.tcs Jn Jq (λe=>Jz (.inl e))) (Xb w1 (some q) vI I z.sp Jj);clear Jj Jq Ju;go_wp2_with fail;refine Jt.o.mono ?_;rintro e w2 ⟨a,cp,rfl,hL,Jo⟩;have⟨Jy,Xr⟩:=h2 (Jr w2 _ (Xk.o.below HC Jo) hL) Jo;clear hL Jo Jr Xb Jt;go_wp2_with fail;refine Jy.o.mono ?_;rintro e w3 ⟨Yd,Ya,Xa,Xc,Ja⟩;have⟨Xj,Xt,Xn,Xe,⟨y0,f0⟩,⟨y1,f1⟩,Xv⟩:=jO Xf Xu Xr Jn Jz Xa Xc;clear Xa Xc Jy;obtain⟨bv,cw,rfl,Jm,Jb,Xw,Jd⟩:=pY Ja HA;have hI0:aj (de C I) w w3:=(Jw.o.tcs (S:=de C I)).trans Xj;clear Ja hI0;have⟨W4,Jf⟩:=q_ (w3.alloc (.cells #[.iface U xu,.slice a1 n1 Z] 160));have Jc:Bl w3 W4:=by rw[Jf];exact r_.alloc n_ _
 have Jk:aN W4 w3.heap.size [.iface U xu,.slice a1 n1 Z]:=by rw[Jf];exact aI w3 _ _ i_
 have⟨B,hB⟩:=q_ w3.heap.size;rw[<-hB]at Jk;have Xz:B≠M:=o_;have Yc:¬M=B:=o_;have Js:=Jm.below HC Jc;have Je:=Xt.o.below Jc;have⟨Xg,Yb,Xl,Xh,Xx,Xp⟩:=h6 Jc Jk Jf hB Js Je;clear y0 f0 y1 f1;have⟨y0,f0⟩:=Je 0 _ rfl;have⟨y1,f1⟩:=Je 1 _ rfl;have X_:bv<W4.heap.size:=l_ Jb Jc.size;have Jp:DO W4 bv 0 (V (v 0)):=(Jc.cell (p:=⟨bv,0,none⟩) Jb).trans Jd;clear Jd Jb;have Xo:=ah (eM HC Xi H0 Jw Jn Jm Xe Xn Xg Xp 0 0);rw[hv]at Jp;clear Jm Js Jc Jk Jf hB Je hv;go_upto_region 26 with fail;rw[<-Xl.o,<-Xh.o];go_wp2_with fail;obtain⟨t0,t1,hQ⟩:=Xo;exact bodyPost_ret (v:=.agg #[V 0,V 0]) (by simp[results,results78,go_sem,t0,t1]) rfl hQ
section
open Go.World List
theorem wd{C:IC}(hC:C.Ok){w:AT}{q:Nat}{vI U:BY}{z:ES}(h:IS C w (some q) vI U z)(hu:0<z.u){A:Nat}{f:Nat}{us:Nat->BY}{st:Nat->ES}{v:Nat->Int}{s1:ES}{tu:JZ}{xu:BY}{tv:JZ}{xv:BY}{nm:Io}(hA:A=2)(hz:nm.size<=maxLen){k:Nat}(hk:k<C.t.gl.length)(hg:i7 C.t.gl nm=some k){ec:Int}{z':ES}(hT:((0<=v 0/\v 0<((st A).ws C.t nm).length)/\d7 (v 1)/\ec=0/\z'={st A with g:=(st A).g.set k (((st A).g.getD k []).set (v 0).toNat (v 1))})\/(¬(0<=v 0/\v 0<((st A).ws C.t nm).length)/\ec=4/\z'=st A))(hF:BJ 167 (.agg #[sV nm,.iface tu xu,.iface tv xv]) f)(hO:OpC C f (.agg #[sV nm,.iface tu xu,.iface tv xv]) A us)(Xx:∀(X:AT) (ar:BY),IS C X (some q) vI U z.sp->wD C X U ar A us->Calls prog 103 #[pV C.P,ar] X λx w'=>wE C X (some q) U A st v A 2 s1 x w'):
  Calls prog 78 #[pV C.P,.iface 167 (.agg #[sV nm,.iface tu xu,.iface tv xv])] w λx w'=>qE C w q U ec 0 z' x w':=by
 rcases hT with⟨Z,Jf,rfl,rfl⟩|⟨Z,rfl,rfl⟩;all_goals
  obtain⟨hm,Yn⟩:=hF;have⟨W0,M,Xn,hM,Jy,Xl,Jo⟩:=iA w;have Xg:w.heap.size<=M:=Nat.le_of_eq hM.symm;have Xq:¬dT C (some q) U M:=λhk=>Ka (dT.lt hC h M hk)
  have Xk:=ah (fh hC (h.below hC Jy) hu);have Xv:=ah hO;have H0:=ah h;have I:=ah hC;have Yi:=ah Xn;have Xa:=ah Jy;have HM:=ah hM;have Yd:=ah Xl;have Xc:=ah Xx;have Js:=λW v=>ch W 167 v d_;have Xr:=λW v=>dq W 167 v d_;have Jq:=kV;have HA:=ah hA;clear hA;clear h hC hO Xx Xn Jy hM Xl hu;go_in;go_upto_region 1 with fail;rw[<-Yi.o,<-HM.o];go_wp2_with fail;refine Xk.o.mono ?_;rintro e w1 ⟨rfl,Jt,Xb⟩;have Ya:=ah Jt;have Xy:=ah Xb;have Yk:=ah (Yd.o.tcs Jo Xb (λe=>Xq (.inl e)));have Xi:=ah (Xv.o w1 (some q) vI U z.sp Jt);clear Jt Xb Xk;go_wp2_with fail;refine Xi.o.mono ?_;rintro e w2 ⟨a,cp,rfl,hL,Jz⟩;have Xo:=ah (Xc.o w2 _ (Ya.o.below I.o Jz) hL);have Yg:=ah Jz;clear hL Jz Xc Xv Xi;go_wp2_with fail;refine Xo.o.mono ?_;rintro e w3 ⟨Yt,Yr,Xs,Xw,Jc⟩;have⟨X_,Yj,Xm,Xd,⟨y0,f0⟩,⟨y1,f1⟩,Yl⟩:=jO Xy Yk Yg Jo Xq Xs Xw;clear Xs Xw Xo;obtain⟨J,cw,rfl,Jn,Jb,Ym,Jj,Jk⟩:=Ig Jc HA;have Ye:=ah Jn;have hI0:aj (de C U) w w3:=(Xa.o.tcs (S:=de C U)).trans X_;clear Jc hI0;have⟨W4,Jg⟩:=q_ (w3.alloc (.cells #[sV nm,.iface tu xu,.iface tv xv] 167));have Jd:Bl w3 W4:=by rw[Jg];exact r_.alloc n_ _
  have Jm:aN W4 w3.heap.size [sV nm,.iface tu xu,.iface tv xv]:=by rw[Jg];exact aI w3 _ _ i_
  have⟨B,hB⟩:=q_ w3.heap.size;rw[<-hB]at Jm;have Yo:B≠M:=o_;have Ys:¬M=B:=o_;have Jv:=Jn.below I.o Jd;have Je:=Yj.o.below Jd;have Xe:=ah Jd;have Xt:=ah Jm;have Xj:=ah Jg;have Xf:=ah hB;have Jl:=ah Jv;clear y0 f0 y1 f1;have⟨y0,f0⟩:=Je 0 _ rfl;have⟨y1,f1⟩:=Je 1 _ rfl;have Yq:J<W4.heap.size:=l_ Jb Jd.size;have Ji:W4.cell? ⟨J,0,none⟩=some (V (v 0)):=(Jd.cell (p:=⟨J,0,none⟩) Jb).trans Jj;have Jh:W4.cell? ⟨J,1,none⟩=some (V (v 1)):=(Jd.cell (p:=⟨J,1,none⟩) Jb).trans Jk;clear Jj Jk Jb;have J_:(st A).ws C.t nm=(st A).g.getD k []:=by unfold ES.ws;rw[hg]
  rw[J_]at Z;have⟨b,hb,Xu,Ja,hf⟩:=Jl.o.word I.o hk;have Jp:Bl W4 W4.drew:=r_.drew
 ·have hE:Calls prog 105 #[pV C.P,sV nm,V (v 0)] W4.drew λe w'=>e=rW (.pointer (some ⟨b,(v 0).toNat,none⟩))/\w'=W4.drew:=by
   have:=zv I.o (Jl.o.below I.o Jp) hz hk hg (v:=v 0) (by rw[<-Ja];exact Z)
   rw[hb]at this;exact this
  have HE:=ah hE;have Jx:=Jl.o.gset I.o hk (j:=(v 0).toNat) (Ia Z.1 Z.2) Jf;rw[hb]at Jx;obtain⟨c0,hc,Yp⟩:∃c0,W4.drew.cell? ⟨b,(v 0).toNat,none⟩=some c0/\W4.drew.frozen? ⟨b,(v 0).toNat,none⟩=false:=⟨_,hf (v 0).toNat (V (((st A).g.getD k []).getD (v 0).toNat 0)) (by generalize (st A).g.getD k []=ws at Z⊢;rw[getElem?_map,J4 o_];simp[List.getD,show(v 0).toNat<ws.length by omega])⟩;have Yb:b≠M:=λe=>by have:=dT.lt I.o H0.o b (.inl (.inr (.inl Xu)));omega
  have Xp:aj (dT C (some q) U) W0 (W4.setCell ⟨b,(v 0).toNat,none⟩ (V (v 1))):=(Xd.o.of_below Xe).setCell (p:=⟨b,(v 0).toNat,none⟩) (.inl (.inr (.inl Xu))) _;have Xh:aN (W4.setCell ⟨b,(v 0).toNat,none⟩ (V (v 1))) M [V 0,V 0]:=Je.tcs (b_ y0) ((aj.refl (λk=>k=b) W4).setCell (p:=⟨b,(v 0).toNat,none⟩) rfl _) (λe=>Yb e.symm);have Jw:=ah (eM I.o Xg H0.o Xa.o Jo Jx Xp Xm.o r_ Xh 0 0);clear hE Jn Jv Jd Jm Jg hB Je Jp Jx Xp Xh hf Ja J_ Z Jf;generalize hv0:v 0=v0 at*;generalize Jf:v 1=v1 at*;generalize hj0:v0.toNat=j at*;have Yf:=ah hv0;have Yh:=ah Jf;have Xz:=ah hj0;clear hv0 Jf hj0;have Yc:W4.drew.cell? ⟨B,0,none⟩=some (sV nm):=(Xt.o 0 _ rfl).1;have Ju:W4.drew.cell? ⟨J,0,none⟩=some (V v0):=Ji;have Jr:W4.drew.cell? ⟨J,1,none⟩=some (V v1):=Jh;go_upto_region 15 with fail;rw[<-Xj.o,<-Xf.o];go_region_held3 (λW=>W.cell? ⟨B,0,none⟩=some (sV nm)/\W.cell? ⟨J,0,none⟩=some (V v0)) (go_simp)
   (first
   | ((with_reducible refine Calls.mono HE.o ?_);rintro e w5 ⟨rfl,rfl⟩))
  go_wp2_with fail;have⟨t0,t1,hQ⟩:=Jw.o;refine bodyPost_ret (v:=.agg #[V 0,V 0]) (by simp[results,results78,go_sem,t0,t1]) rfl ?_;rw[Yf.o,Yh.o,Xz.o];exact hQ.drew I
 have HE:=ah (vU I.o (Jl.o.below I.o Jp) hz hk hg (v:=v 0) (by rw[<-Ja];exact Z));have Jw:=ah (eM I.o Xg H0.o Xa.o Jo Ye.o Xd.o Xm.o Xe.o Je 4 0);clear Jn Jv Jd Jm Jg hB Je Jp hf Ja J_ Z;generalize v 0=v0 at*;generalize v 1=v1 at*;have Yc:W4.drew.cell? ⟨B,0,none⟩=some (sV nm):=(Xt.o 0 _ rfl).1;have Ju:W4.drew.cell? ⟨J,0,none⟩=some (V v0):=Ji;have Jr:W4.drew.cell? ⟨J,1,none⟩=some (V v1):=Jh;go_upto_region 15 with fail;rw[<-Xj.o,<-Xf.o];go_region_held3 (λW=>W.cell? ⟨B,0,none⟩=some (sV nm)/\W.cell? ⟨J,0,none⟩=some (V v0)) (go_simp)
  (first
  | ((with_reducible refine Calls.mono HE.o ?_);rintro e w5 ⟨rfl,rfl⟩))
 go_wp2_with fail;have⟨t0,t1,hQ⟩:=Jw.o;exact bodyPost_ret (v:=.agg #[V 4,V 0]) (by simp[results,results78,go_sem,t0,t1]) rfl (hQ.drew I)
section
variable{T:JZ}{f:Nat}
def Ih{xv:BY}(h:BJ T xv f)(w:AT)(cs:Array BY):∃W,W=w.alloc (.cells cs T):=⟨_,rfl⟩
theorem zx{C:IC}(hT:T=164\/T=165)(hC:C.Ok){w:AT}{q:Nat}{vI I:BY}{z:ES}(h:IS C w (some q) vI I z)(hu:0<z.u){A:Nat}{us:Nat->BY}{st:Nat->ES}{v:Nat->Int}{s1:ES}{tu:JZ}{xu:BY}{nm:Io}(hA:A=1){z':ES}(Jg:∀(X:AT) (vI3 vO3:BY),IS C X (some q) vI3 vO3 (st A)->aj (de C I) w X->Calls prog 104 #[pV C.P,sV nm,V (v 0)] X λe w'=>e=rW (.tuple #[])/\IS C w' (some q) vI3 vO3 z'/\aj (dT C (some q) vO3) X w')(hF:BJ T (.agg #[sV nm,.iface tu xu]) f)(hO:OpC C f (.agg #[sV nm,.iface tu xu]) A us)(Xl:∀(X:AT) (ar:BY),IS C X (some q) vI I z.sp->wD C X I ar A us->Calls prog 103 #[pV C.P,ar] X λx w'=>wE C X (some q) I A st v A 2 s1 x w'):
  Calls prog 78 #[pV C.P,.iface T (.agg #[sV nm,.iface tu xu])] w λx w'=>qE C w q I 0 0 z' x w':=by
 rcases hT with rfl|rfl;all_goals
  have Ya:=ah hF;obtain⟨hm,Yk⟩:=hF;have⟨W0,M,Xc,hM,Jq,J_,Jk⟩:=iA w;have Xr:w.heap.size<=M:=Nat.le_of_eq hM.symm;have Ju:¬dT C (some q) I M:=λhk=>Ka (dT.lt hC h M hk)
  have Jz:=ah (fh hC (h.below hC Jq) hu);have Xi:=ah hO;have H0:=ah h;have U:=ah hC;have Yc:=ah Xc;have Xb:=ah Jq;have HM:=ah hM;have X_:=ah J_;have Jv:=ah Xl;have Jl:=mA;have Xy:=λW v=>ch W 165 v d_;have Xg:=oQ;have HA:=ah hA;clear hA;clear h hC hO Xl Xc Jq hM J_ hu;go_in;go_upto_region 1 with fail;rw[<-Yc.o,<-HM.o];go_wp2_with fail;refine Jz.o.mono ?_;rintro e w1 ⟨rfl,Jm,Jt⟩;have Xt:=ah Jm;have Xn:=ah Jt;have Yh:=ah (X_.o.tcs Jk Jt (λe=>Ju (.inl e)));have Jy:=ah (Xi.o w1 (some q) vI I z.sp Jm);clear Jm Jt Jz;go_wp2_with fail;refine Jy.o.mono ?_;rintro e w2 ⟨a,cp,rfl,hL,Js⟩;have Xd:=ah (Jv.o w2 _ (Xt.o.below U.o Js) hL);have Yb:=ah Js;clear hL Js Jv Xi Jy;go_wp2_with fail;refine Xd.o.mono ?_;rintro e w3 ⟨vI3,vO3,Xh,Xj,Jb⟩;have⟨Xs,Yf,Jp,Xm,⟨y0,f0⟩,⟨y1,f1⟩,Yj⟩:=jO Xn Yh Yb Jk Ju Xh Xj;clear Xh Xj Xd;obtain⟨J,cw,rfl,Jr,Jc,Xo,Jf⟩:=pY Jb HA;have Z:aj (de C I) w w3:=(Xb.o.tcs (S:=de C I)).trans Xs;have Xx:=ah Z;clear Jb Z;have⟨W4,Jj⟩:=Ih Ya.o w3 #[sV nm,.iface tu xu];have Jd:Bl w3 W4:=by rw[Jj];exact r_.alloc n_ _
  have Je:aN W4 w3.heap.size [sV nm,.iface tu xu]:=by rw[Jj];exact aI w3 _ _ i_
  have⟨B,hB⟩:=q_ w3.heap.size;rw[<-hB]at Je;have Yl:B≠M:=o_;have Yn:¬M=B:=o_;have Jo:=Jr.below U.o Jd;have Jh:=Yf.o.below Jd;have Jw:=ah Jd;have Xu:=ah Jj;have Xq:=ah hB;clear y0 f0 y1 f1;have⟨y0,f0⟩:=Jh 0 _ rfl;have⟨y1,f1⟩:=Jh 1 _ rfl;have Xz:J<W4.heap.size:=l_ Jc Jd.size;have Ja:W4.cell? ⟨J,0,none⟩=some (V (v 0)):=(Jd.cell (p:=⟨J,0,none⟩) Jc).trans Jf;clear Jf Jc;have Xe:Bl W4 W4.drew:=r_.drew;have Yg:∀k,dT C (some q) vO3 k->k<w3.heap.size:=dT.lt U.o Jr;have Yi:¬dT C (some q) vO3 B:=λe=>Ka (Yg B e)
  have Yd:J≠q:=λe=>by
   have:=D8 Jo 0
   rw[<-e,Ja]at this;cases this
  have Xk:Hid (Calls prog 104 #[pV C.P,sV nm,V (v 0)] W4.drew λe w'=>e=rW (.tuple #[])/\(w'.cell? ⟨B,0,none⟩=some (sV nm)/\w'.cell? ⟨J,0,none⟩=some (V (v 0)))/\IS C w' (some q) vI3 vO3 z'/\aj (dT C (some q) vO3) W4.drew w'/\aN w' M [V 0,V 0]):=by
   refine(Jg W4.drew vI3 vO3 (Jo.below U.o Xe) ((Xx.o.of_below Jw).drew)).mono λe w' hE=>?_;obtain⟨e1,e2,e3⟩:=hE;refine⟨e1,⟨(Je.tcs (b_ (Je 0 _ rfl).1) ((aj.refl _ _).drew.trans e3) Yi 0 _ rfl).1,?_⟩,e2,e3,Jh.tcs (b_ y0) ((aj.refl _ _).drew.trans e3) (x8 (w:=w) (λhk=>Ka (dT.lt U.o H0.o _ hk)) Ju Jk Jp)⟩;refine(c_ (a:=⟨J,0,none⟩) (e3.block J Xz (λhk=>?_))).trans Ja;rcases hk with hk|hk
   exact Xo hk;cases hk;exact Yd rfl
  have Ym:W4.drew.cell? ⟨B,0,none⟩=some (sV nm):=(Je 0 _ rfl).1;have Jn:W4.drew.cell? ⟨J,0,none⟩=some (V (v 0)):=Ja;generalize v 0=v0 at Xk Jn Ja;clear Jr Jo Jd Je Jj hB Jh Jg Xe;first
  | go_upto_region 9 with fail
  | go_upto_region 12 with fail
  rw[<-Xu.o,<-Xq.o];go_region_held3 (λW=>W.cell? ⟨B,0,none⟩=some (sV nm)/\W.cell? ⟨J,0,none⟩=some (V v0)) (go_simp)
   (first
   | ((with_reducible refine Calls.mono Xk.o ?_);rintro e w5 ⟨rfl,⟨s0,s1⟩,Xa,Jx,Ji⟩;have Ye:=ah Xa;have Xw:=ah Jx;have Xp:=ah Ji))
  have Xf:aj (dT C (some q) I) W0 w5:=dT.next (Xm.o.of_below Jw).drew Xw.o Jp;have Xv:=ah (eM U.o Xr H0.o Xb.o Jk Ye.o Xf Jp.o r_ Xp.o 0 0);clear y0 f0 y1 f1 Xa Jx Xf s0 s1;have⟨y0,f0⟩:=Ji 0 _ rfl;have⟨y1,f1⟩:=Ji 1 _ rfl;clear Ji;go_wp2_with fail;have⟨t0,t1,hQ⟩:=Xv.o;exact bodyPost_ret (v:=.agg #[V 0,V 0]) (by simp[results,results78,go_sem,t0,t1]) rfl hQ
end
def F0{C:IC}(hC:C.Ok){w:AT}{q:Nat}{vI U:BY}{z:ES}(h:IS C w (some q) vI U z)(hu:0<z.u){A:Nat}{f:Nat}{us:Nat->BY}{st:Nat->ES}{v:Nat->Int}{s1:ES}{tu:JZ}{xu:BY}(hA:A=1)(Yb:(st A).o.length+1+(st A).u<=100000)(hF:BJ 168 (.agg #[.iface tu xu]) f)(hO:OpC C f (.agg #[.iface tu xu]) A us)(Yc:∀(X:AT) (ar:BY),IS C X (some q) vI U z.sp->wD C X U ar A us->Calls prog 103 #[pV C.P,ar] X λx w'=>wE C X (some q) U A st v A 2 s1 x w'):
  Calls prog 78 #[pV C.P,.iface 168 (.agg #[.iface tu xu])] w λx w'=>qE C w q U 0 0 {st A with o:=(st A).o++[v 0]} x w':=by
 obtain⟨hm,Y_⟩:=hF;have⟨W0,M,Xs,hM,Jy,Xm,Jo⟩:=iA w;have Yg:w.heap.size<=M:=Nat.le_of_eq hM.symm;have Xe:¬dT C (some q) U M:=λhk=>Ka (dT.lt hC h M hk)
 have⟨Xl,Xw,H0,Z,Yt,Xq,HM,Yo,Xf⟩:=h9 (fh hC (h.below hC Jy) hu) hO h hC Xs Jy hM Xm Yc;have Js:=λW v=>ch W 168 v d_;have Xu:=λW v=>dq W 168 v d_;have Jp:=λW v=>cT W 168 v d_;have Yk:=λW v=>em W 168 v d_;have Jr:=λW v=>eo W 168 v d_;have Jg:=λW v=>fN W 168 v d_;have Xg:=oR;have HA:=ah hA;clear hA;clear h hC hO Yc Xs Jy hM Xm hu;go_in;go_upto_region 1 with fail;rw[<-Yt.out,<-HM.out];go_wp2_with fail;refine Xl.out.mono ?_;rintro e w1 ⟨rfl,Ju,Xc⟩;have⟨Yi,Ye,Yw,Xk⟩:=h4 Ju Xc (Yo.out.tcs Jo Xc (λe=>Xe (.inl e))) (Xw w1 (some q) vI U z.sp Ju);clear Ju Xc Xl;go_wp2_with fail;refine Xk.out.mono ?_;rintro e w2 ⟨a,cp,rfl,hL,Jz⟩;have⟨Xt,Yr⟩:=h2 (Xf w2 _ (Yi.out.below Z Jz) hL) Jz;clear hL Jz Xf Xw Xk;go_wp2_with fail;refine Xt.out.mono ?_;rintro e w3 ⟨Ze,Yp,Xv,Xx,Ja⟩;have⟨Yh,Yv,Jx,Yd,⟨y0,f0⟩,⟨y1,f1⟩,Yf⟩:=jO Ye Yw Yr Jo Xe Xv Xx;clear Xv Xx Xt;obtain⟨I,cw,rfl,Xo,Je,Xh,Jl⟩:=pY Ja HA;have hI0:aj (de C U) w w3:=(Xq.out.tcs (S:=de C U)).trans Yh;clear Ja hI0;have⟨W4,Jn⟩:=q_ (w3.alloc (.cells #[.iface tu xu] 168));have Jf:Bl w3 W4:=by rw[Jn];exact r_.alloc n_ _
 have Jt:aN W4 w3.heap.size [.iface tu xu]:=by rw[Jn];exact aI w3 _ _ i_
 have⟨B,hB⟩:=q_ w3.heap.size;rw[<-hB]at Jt;have Za:B≠M:=o_;have Zd:¬M=B:=o_;have Jw:=Xo.below Z Jf;have Jh:=Yv.out.below Jf;have⟨Xi,Zc,Yj,Yy,Yz,Zb⟩:=h6 Jf Jt Jn hB Jw Jh;clear y0 f0 y1 f1;have⟨y0,f0⟩:=Jh 0 _ rfl;have⟨y1,f1⟩:=Jh 1 _ rfl;have J_:I<W4.heap.size:=l_ Je Jf.size;have Jk:W4.cell? ⟨I,0,none⟩=some (V (v 0)):=(Jf.cell (p:=⟨I,0,none⟩) Je).trans Jl;clear Jl Je;have⟨W5,Xb⟩:=q_ W4.drew;have Jd:Bl W4 W5:=by rw[Xb];exact r_.drew
 have Jj:=Jw.below Z Jd;have⟨va,vc,w7,r7,Xn,⟨x7,f7⟩,t7,Xd,o7⟩:=FZ Z (v 0) Jj Yb;have⟨W6,Jm⟩:=q_ (W5.alloc (.cells #[V (v 0)] 2));rw[<-Jm]at r7;have Xa:Bl W5 W6:=by rw[Jm];exact r_.alloc n_ _
 have Jb:I<W5.heap.size:=l_ J_ Jd.size;have Jq:W5.cell? ⟨I,0,none⟩=some (V (v 0)):=(Jd.cell (p:=⟨I,0,none⟩) J_).trans Jk;have Xp:W6.cell? ⟨I,0,none⟩=some (V (v 0)):=(Xa.cell (p:=⟨I,0,none⟩) Jb).trans Jq;have Xj:w7.cell? ⟨I,0,none⟩=some (V (v 0)):=(c_ (a:=⟨I,0,none⟩) (t7.block I Jb Xh)).trans Jq;have Xy:=(Jj.box 7 _ rfl).1;have Xr:=((Jj.below Z Xa).box 7 _ rfl).1;have Jc:¬dT C (some q) Yp M:=x8 (w:=w) (λhk=>Ka (dT.lt Z.out H0.out _ hk)) Xe Jo Jx;have Ji:=Jh.below Jd;have Zf:C.P≠M:=λe=>by have:=(H0.out.hi Z.out).1;omega
 have Jv:aN w7 M [V 0,V 0]:=Ji.tcs (b_ (Ji 0 _ rfl).1) t7 (λe=>Jc (.inl e));have Ya:aN (w7.setCell ⟨C.P,7,none⟩ (.slice va ((st A).o.length+1) vc)) M [V 0,V 0]:=Ji.tcs (b_ (Ji 0 _ rfl).1) Xd (λe=>Jc (.inl e));have Xz:aj (dT C (some q) U) W0 (w7.setCell ⟨C.P,7,none⟩ (.slice va ((st A).o.length+1) vc)):=dT.next ((Yd.out.of_below Xi).of_below Jd) (dT.of Xd) Jx;have Yl:=ah (eM Z Yg H0 Xq Jo Xn Xz (λk hk=>by rcases o7 k hk with h1|h1;exact Jx k h1;exact .inr (t_ (t_ Yf Xi.out.size) (t_ Jd.size h1))) r_ Ya 0 0);obtain⟨La,Lc,eL,-⟩:=jf Jj.out;subst eL;generalize hll:(st A).o.length=ol at*;generalize hv0:v 0=v0 at*;have⟨Yx,Yq⟩:=h2 hll hv0;clear hv0;have⟨Yu,Ys,Yn⟩:=h3 r7 Xb Jm;have J:Hid (W5.cell? ⟨C.P,7,none⟩=some (.slice La ol Lc)/\W5.cell? ⟨I,0,none⟩=some (V v0)):=⟨Xy,Jq⟩;have Ym:Hid (W6.cell? ⟨C.P,7,none⟩=some (.slice La ol Lc)/\W6.cell? ⟨I,0,none⟩=some (V v0)):=⟨Xr,Xp⟩;have X_:Hid (w7.cell? ⟨C.P,7,none⟩=some (.slice La ol Lc)/\w7.cell? ⟨I,0,none⟩=some (V v0)):=⟨x7,Xj⟩;clear y0 f0 y1 f1;have⟨y0,f0⟩:=Jv 0 _ rfl;have⟨y1,f1⟩:=Jv 1 _ rfl;clear hll r7 Xb Jm Xo Jw Jf Jt Jn hB Jh Jj Xn t7 Xd o7 Jd Xa Jb Jq Xp Xj Xy Xr Jc Ji Jv Ya Xz Jk J_ Xh Yb;go_upto_region 33 with fail;rw[<-Yj.out];refine cq 12 (λX=>X.cell? ⟨C.P,7,none⟩=some (.slice La ol Lc)/\X.cell? ⟨I,0,none⟩=some (V v0)) k_ ?_;rw[<-Ys.out];refine tk 0 [10,11,12] J ?_;refine tk 1 [2,3,4,9,12] J ?_;refine tk 2 [3,4,9,12] J ?_;refine tk 3 [4,9,12] J ?_;refine tk 4 [9,12] J ?_;refine tk 5 [6,7,8,9,12] J ?_;refine tk 6 [7,8,9,12] J ?_;refine tk 7 [8,9,12] J ?_;clear J;refine aB (i:=8) k_ rfl (λK hK=>?_);go_simp;rw[<-Yn.out];refine hK.out _ _ (λ_=>Ym) ?_;clear hK K;try simp only[Act.put,tA,tB,tC]
 refine aB (i:=9) k_ rfl (λK hK=>?_);refine dW rfl (.tmp 108) (.tmp 112) 34 rfl (.slice La ol Lc) (rV W5.heap.size 1 1) (.slice va (ol+1) vc) w7 rfl rfl Yu ?_;refine hK.out _ _ (λ_=>X_) ?_;clear hK K;try simp only[Act.put,tA,tB,tC]
 have J:=X_;refine tk 10 [11,12] J ?_;refine tk 11 [12] J ?_;clear J;refine aB (i:=12) k_ rfl (λK hK=>?_);go_simp;refine hK.out _ _ (λh=>absurd rfl h) ?_;clear hK K;refine co k_ ?_ _;go_wp2_with fail;obtain⟨t0,t1,hQ⟩:=Yl;refine bodyPost_ret (v:=.agg #[V 0,V 0]) (by simp[results,results78,go_sem,t0,t1]) rfl ?_;rw[Yq.out];exact hQ
section
variable{C:IC}{w:AT}{q:Nat}{vI vO:BY}{z:ES}
def Ij(I:C.Ok)(h:IS C w (some q) vI vO z)(U:z.u=0)(t:JZ)(x:BY):Calls prog 78 #[pV C.P,.iface t x] w λx w'=>qE C w q vO 3 0 z x w':=by have⟨W0,M,Jc,J,Ja,Jb,Jf⟩:=iA w;have⟨Jh,Jd⟩:=h2 (tp (h.below I Ja) U) (eM I (Nat.le_of_eq J.symm) h Ja Jf (h.below I Ja) (aj.refl _ _) (λk hk=>.inl hk) r_ Jb 3 0);have⟨y0,f0⟩:=Jb 0 _ rfl;have⟨y1,f1⟩:=Jb 1 _ rfl;have⟨HC,Je,Z⟩:=h3 I Jc J;clear h I U Jc J Ja Jb;go_in;go_upto_region 1 with fail;rw[<-Je.o,<-Z.o];go_wp2_with fail;refine Jh.o.mono ?_;rintro e w1 ⟨rfl,Jg⟩;rw[Jg];go_wp2_with fail;obtain⟨t0,t1,hQ⟩:=Jd;exact bodyPost_ret (v:=.agg #[V 3,V 0]) (by simp[results,results78,go_sem,t0,t1]) rfl hQ
def Ik(U:C.Ok)(h:IS C w (some q) vI vO z)(hu:0<z.u){A:Nat}{f:Nat}{us:Nat->BY}{st:Nat->ES}{v:Nat->Int}{j:Nat}{c I:Int}(Js:I=c+1){s1:ES}(hj:j<A)(hc:c=2\/c=3){t:JZ}{x:BY}(hF:BJ t x f)(hO:OpC C f x A us)(Jr:∀(X:AT) (ar:BY),IS C X (some q) vI vO z.sp->wD C X vO ar A us->Calls prog 103 #[pV C.P,ar] X λx w'=>wE C X (some q) vO A st v j c s1 x w'):
  Calls prog 78 #[pV C.P,.iface t x] w λx w'=>qE C w q vO I 0 s1 x w':=by
 obtain⟨hm,Xj⟩:=hF;have⟨W0,M,Jj,Z,Jc,Jp,Je⟩:=iA w;have Jz:w.heap.size<=M:=Nat.le_of_eq Z.symm;have Jn:¬dT C (some q) vO M:=λhk=>Ka (dT.lt U h M hk)
 have⟨Jo,Jh,H0,HC,Jx,Ju,HM,Jy,Jg,Jm⟩:=h10 (fh U (h.below U Jc) hu) hO h U Jj Jc Z Jp Jr Js;clear Js;clear h U hO Jr Jj Jc Z Jp hu;go_in;go_upto_region 1 with fail;rw[<-Jx.o,<-HM.o];go_wp2_with fail;refine Jo.o.mono ?_;rintro e w1 ⟨rfl,Jb,Jd⟩;have⟨Xb,Jv,Xe,Jl⟩:=h4 Jb Jd (Jy.o.tcs Je Jd (λe=>Jn (.inl e))) (Jh w1 (some q) vI vO z.sp Jb);clear Jb Jd Jo;go_wp2_with fail;refine Jl.o.mono ?_;rintro e w2 ⟨a,cp,rfl,hL,Jf⟩;have⟨Jk,Xd⟩:=h2 (Jg w2 _ (Xb.o.below HC Jf) hL) Jf;clear hL Jf Jg Jh Jl;go_wp2_with fail;refine Jk.o.mono ?_;rintro e w3 ⟨Xa,Xc,Jq,Ji,Ja⟩;have⟨Xi,J_,Xf,Jt,⟨y0,f0⟩,⟨y1,f1⟩,Xg⟩:=jO Jv Xe Xd Je Jn Jq Ji;clear Jq Ji Jk;obtain⟨rfl,J⟩:e=rW (.tuple #[nV,V I])/\IS C w3 (some q) Xa Xc s1:=by rw[Jm.o];rcases Ja with⟨e1,-⟩|⟨-,e1,e2⟩;omega;exact⟨e1,e2⟩
 have Xh:(I != 0)=true:=by have:=Jm.o;simp;omega
 have Jw:=ah (eM HC Jz H0 Ju Je J Jt Xf r_ J_ I 0);clear Ja J;go_wp2_with fail;obtain⟨t0,t1,hQ⟩:=Jw;exact bodyPost_ret (v:=.agg #[V I,V 0]) (by simp[results,results78,go_sem,t0,t1]) rfl hQ
end
section
variable{C:IC}{w X:AT}{q:Nat}{vI vO vI3 vO3:BY}{z y:ES}{x:Io}{v:Int}
def we(I:C.Ok)(h:IS C w (some q) vI vO z)(hy:IS C X (some q) vI3 vO3 y)(ht:aj (de C vO) w X)(hl:y.l=z.l)(hu:y.u+1<=z.u)(hz:x.size<=maxLen)(hg:i7 C.t.gl x=none)(hv:d7 v){J:List (Io×Int)}(Jb:∀p u,(p,u)∈J->(p=x/\u=v)\/(p≠x/\(p,u)∈y.l)):
  Calls prog 104 #[pV C.P,sV x,V v] X λe w'=>e=rW (.tuple #[])/\IS C w' (some q) vI3 vO3 {y with l:=J}/\aj (dT C (some q) vO3) X w':=by
 rcases h.var with⟨e,-⟩|⟨b,n,D,e,U,h2,h3,h4,h5⟩;cases e;cases e
 have⟨q1,q2,q3,q4,Z⟩:=I.pg;have Ja:=bX U ht (λhk=>by
  rcases hk with hk|hk|hk;omega
  ·have:=(Z q hk).2;omega
  exact h5 hk)
 refine(FM I hy Ja (by rw[hl];exact h2) o_ hz hg hv Jb).mono λe w' hE=>?_;exact⟨hE.1,hE.2.1,hE.2.2.mono λk hk=>.inr (by have e:k=q:=hk;rw[e])⟩
def Il(hC:C.Ok)(h:IS C w (some q) vI vO z)(hy:IS C X (some q) vI3 vO3 y)(ht:aj (de C vO) w X)(Z:y.l=z.l)(hu:y.u+1<=z.u)(Jb:qO C.t (z.l.map Prod.fst))(hz:x.size<=maxLen)(J:x∈z.l.map Prod.fst\/(x∉z.l.map Prod.fst/\globI C.t.gl x=0))(hv:d7 v):
  Calls prog 104 #[pV C.P,sV x,V v] X λe w'=>e=rW (.tuple #[])/\IS C w' (some q) vI3 vO3 (y.wr C.t x v)/\aj (dT C (some q) vO3) X w':=by
 rcases J with J|⟨J,hg⟩;have Ja:=J;rw[<-Z]at Ja;have⟨j,hj,U,h2⟩:=nw.1 Ja;have hs:y.wr C.t x v={y with l:=y.l.set j (x,v)}:=by unfold ES.wr;rw[U]
 rw[hs];have Jd:(y.l.map Prod.fst).Nodup:=by rw[Z];exact Jb.1
 refine we hC h hy ht Z hu hz (zr hC Jb J) hv (λp u hp=>?_);have⟨i,hi,I⟩:=getElem_of_mem hp;rw[length_set]at hi;rw[getElem_set]at I;by_cases hij:j=i;rw[if_pos hij]at I;cases I;exact .inl ⟨rfl,rfl⟩;rw[if_neg hij]at I;refine .inr ⟨λe=>hij ?_,I ▸ g_ hi⟩;refine pD Jd (IN hj) (IN hi) ?_;rw[getElem_map,getElem_map,h2,I,e]
 have⟨k,Jc,U,h2⟩:=hU (gs:=C.t.gl) (x:=x) o_;have Ja:x∉y.l.map Prod.fst:=by rw[Z];exact J
 have hs:y.wr C.t x v={y with g:=y.g.set k ((y.g.getD k []).set 0 v)}:=by unfold ES.wr;rw[oM Ja,U]
 rw[hs];exact(FN hC hy hz Jc U hv).mono λe w' hE=>⟨hE.1,hE.2.1,dT.of hE.2.2⟩
def F3{I:Option Nat}{A:Nat}{st:Nat->ES}{v:Nat->Int}{c:Int}{J:ES}{x:Ending}{w':AT}(h:wE C w I vO A st v A c J x w'):wE C w I vO A st v A 2 J x w':=by obtain⟨a,b,U,h2,h3|⟨h3,-⟩⟩:=h;exact⟨a,b,U,h2,.inl h3⟩;omega
def mt{s:St}(h:stmtB s=true)(J:s.kd<=3):s.nm.size<=20:=by
 simp only[stmtB,J1]at h;have I:=h.1.1.1.1.1.2;rw[if_pos J]at I;have:oq s.nm:=by simpa[bh]using I
 exact this.2.1
def JN(C:IC)(n:Nat):Prop:=∀(s:St) (a b:List St) (us:Nat->BY) (sv:BY) (z:ES) (ec vc:Int) (z':ES),Lk C.t C.fr n s a b z ec vc z'->GJ C.t (z.l.map Prod.fst) s->qO C.t (z.l.map Prod.fst)->stmtB s=true->(s.kd=4\/s.kd=5->wC C.t (z.l.map Prod.fst) a/\wC C.t (z.l.map Prod.fst) b)->Jo C sv s a b us->(∀i,i<fT s->Tv C.w0 C.S (us i) (Br s i))->∀(w:AT) (q:Nat) (vI vO:BY),IS C w (some q) vI vO z->Calls prog 78 #[pV C.P,sv] w λx w'=>qE C w q vO ec vc z' x w'
def Im{r:ER}(h:cH r≠0):pX r=cH r:=by unfold pX;rw[if_neg h]
theorem Ea(I:C.Ok){n:Nat}(IH:Hz C n)(IB:Jv C n):JN C n:=by
 intro s a b us sv z ec vc z' Xh Jq Js Jo Xc Jh Xi w q vI vO h;have Jx:∀i,i<fT s->∃t x,us i=.iface t x:=λi hi=>(Xi i hi).isI;have⟨t,x,f,Jc,hF,Z⟩:=v_ I Jh Jx;by_cases hu:z.u=0
 rcases Xh with⟨-,rfl,rfl,rfl⟩|⟨h1,-⟩;rw[Jc];exact Ij I h hu t x;omega;have Je:0<z.u:=o_
 have⟨st,v,j,c,s1,h0,Jw,hc,Jn⟩:=Xh.ops Je Jq Jo;have Jr:OkW (st 0):=by rw[h0];exact⟨h.ok.g,h.ok.l,h.ok.i⟩
 have Jz:(st 0).l=z.l:=by rw[h0];rfl
 have Xa:∀(X:AT) (ar:BY),IS C X (some q) vI vO z.sp->wD C X vO ar (fT s) us->Calls prog 103 #[pV C.P,ar] X λx w'=>wE C X (some q) vO (fT s) st v j c s1 x w':=λX ar hX hL=>pU I IH Jw hc (by rw[Jz];exact Js) (by rw[h0];exact hX) hL Xi;rcases Jn with⟨hj,rfl,rfl,rfl⟩|⟨hj,hR⟩
 rw[Jc];exact Ik I h Je rfl hj hc hF Z Xa;subst hj;have Ja:∀(X:AT) (ar:BY),IS C X (some q) vI vO z.sp->wD C X vO ar (fT s) us->Calls prog 103 #[pV C.P,ar] X λx w'=>wE C X (some q) vO (fT s) st v (fT s) 2 s1 x w':=λX ar hX hL=>(Xa X ar hX hL).mono λx w' hE=>F3 hE;have⟨Xq,Xl,Xg⟩:=Jw.l Jr (fT s) n_;have Jf:(st (fT s)).l=z.l:=Xl.trans Jz;have Ju:Ou 0 (st 0) (st (fT s)):=lV (λi hi=>(Jw.kid i hi).ou) (fT s) n_;rw[h0]at Ju;have Xe:(st (fT s)).u+1<=z.u:=(by have:=Ju.1;simp only[ES.sp]at this;omega);have Jm:0<fT s:=by unfold fT;split <;> omega
 have Ji:s.kd≠3->fT s=1:=λh=>by unfold fT;rw[if_neg h]
 have Jp:s.kd=3->fT s=2:=λh=>by unfold fT;rw[if_pos h]
 have⟨tu,xu,Jk⟩:=Jx 0 Jm;have Xf:=Xg 0 Jm;have Jl:∀ {l:List St} {L:List (BY×List St)} {vb:BY} {r:ER},Ev C.t C.fr n (.bl l) (st (fT s)) r z'->wC C.t (z.l.map Prod.fst) l->l=aG L->kr C.w0 C.S vb L->∀(X:AT) (vI3 vO3:BY),IS C X (some q) vI3 vO3 (st (fT s))->Calls prog 53 #[pV C.P,vb] X λx w'=>qE C X q vO3 (cH r) (dg r) z' x w':=λ{l L vb r} hE hl he hb X vI3 vO3 hX=>by subst he;exact IB L _ r z' hE (by rw[Jf];exact hl) (by rw[Jf];exact Js) X q vI3 vO3 vb hX hb
 rcases hR with⟨U,rfl,rfl,rfl⟩|⟨U,rfl,rfl,rfl⟩|⟨U,hR⟩|⟨U,r,rfl,rfl,hR⟩|⟨U,hR⟩|⟨U,rfl,rfl,rfl⟩|⟨U,rfl,rfl,rfl⟩|⟨U,rfl,rfl,rfl⟩
 ·have⟨Xp,Xo⟩:=Jq.decl U;rcases Jh with⟨h9,rfl⟩|⟨h9,rfl⟩|⟨h9,rfl⟩|⟨h9,va,vb,J,Lb,rfl,Jb,Jd,Jg,Jj⟩|⟨h9,va,J,rfl,Jb,Jd⟩|⟨h9,rfl⟩|⟨h9,rfl⟩|⟨h9,rfl⟩ <;> first|omega|skip;rw[Jk]at Jc⊢;cases Jc
  refine zx (.inl rfl) I h Je (Ji o_) (λX vI3 vO3 hX ht=>?_) hF Z Ja;refine we I h hX ht Jf Xe (gV (mt Jo o_) d_) (tq (od I.snd) Xo) Xf (λp u hp=>?_);rcases J5.1 hp with hp|hp;refine .inr ⟨λe=>Xp ?_,hp⟩;rw[<-e,<-Jf];exact mem_map.2 ⟨_,hp,rfl⟩;simp only[J7,Prod.mk.injEq]at hp;exact .inl hp
 ·rcases Jh with⟨h9,rfl⟩|⟨h9,rfl⟩|⟨h9,rfl⟩|⟨h9,va,vb,J,Lb,rfl,Jb,Jd,Jg,Jj⟩|⟨h9,va,J,rfl,Jb,Jd⟩|⟨h9,rfl⟩|⟨h9,rfl⟩|⟨h9,rfl⟩ <;> first|omega|skip;rw[Jk]at Jc⊢;cases Jc
  exact zx (.inr rfl) I h Je (Ji o_) (λX vI3 vO3 hX ht=>Il I h hX ht Jf Xe Js (gV (mt Jo o_) d_) (Jq.set U) Xf) hF Z Ja
 ·obtain⟨-,hg⟩:=Jq.store U;obtain⟨k,Xd,Jy,-⟩:=hU (gs:=C.t.gl) (x:=s.nm) o_;have⟨tv,xv,Xk⟩:=Jx 1 (by rw[Jp U];omega);have Xn:=Xg 1 (by rw[Jp U];omega);rcases Jh with⟨h9,rfl⟩|⟨h9,rfl⟩|⟨h9,rfl⟩|⟨h9,va,vb,J,Lb,rfl,Jb,Jd,Jg,Jj⟩|⟨h9,va,J,rfl,Jb,Jd⟩|⟨h9,rfl⟩|⟨h9,rfl⟩|⟨h9,rfl⟩ <;> first|omega|skip;rw[Jk,Xk]at Jc⊢;cases Jc
  have Xb:=gV (mt Jo o_) d_;rcases hR with⟨Xm,rfl,rfl,rfl⟩|⟨hy,rfl,rfl,rfl⟩;exact wd I h Je (Jp U) Xb Xd Jy (.inr ⟨Xm,rfl,rfl⟩) hF Z Ja;have e:(st (fT s)).st C.t s.nm (v 0).toNat (v 1)={st (fT s)with g:=(st (fT s)).g.set k (((st (fT s)).g.getD k []).set (v 0).toNat (v 1))}:=(by unfold ES.st;rw[Jy]);rw[e];exact wd I h Je (Jp U) Xb Xd Jy (.inl ⟨hy,Xn,rfl,rfl⟩) hF Z Ja
 ·have⟨Jt,J_⟩:=Xc (.inl U);rcases Jh with⟨h9,rfl⟩|⟨h9,rfl⟩|⟨h9,rfl⟩|⟨h9,va,vb,J,Lb,rfl,Jb,Jd,Jg,Jj⟩|⟨h9,va,J,rfl,Jb,Jd⟩|⟨h9,rfl⟩|⟨h9,rfl⟩|⟨h9,rfl⟩ <;> first|omega|skip;obtain⟨a1,c1,rfl,-⟩:=Jb.args;obtain⟨a2,c2,rfl,-⟩:=Jg.args;rw[Jk]at Jc⊢;cases Jc
  rcases hR with⟨hv,hE⟩|⟨hv,hE⟩;exact D9 I h Je (.inl ⟨rfl,rfl,_,_,_,_,_,_,rfl,.inl ⟨rfl,rfl⟩⟩) (Ji o_) (IN hv) (Jl hE Jt Jd Jb) hF Z Ja;exact D9 I h Je (.inl ⟨rfl,rfl,_,_,_,_,_,_,rfl,.inr ⟨rfl,rfl⟩⟩) (Ji o_) (IN hv) (Jl hE J_ Jj Jg) hF Z Ja
 ·have⟨Jt,J_⟩:=Xc (.inr U);rcases Jh with⟨h9,rfl⟩|⟨h9,rfl⟩|⟨h9,rfl⟩|⟨h9,va,vb,J,Lb,rfl,Jb,Jd,Jg,Jj⟩|⟨h9,va,J,rfl,Jb,Jd⟩|⟨h9,rfl⟩|⟨h9,rfl⟩|⟨h9,rfl⟩ <;> first|omega|skip;obtain⟨a1,c1,rfl,-⟩:=Jb.args;rw[Jk]at Jc⊢;cases Jc
  rcases hR with⟨hv,rfl,rfl,rfl⟩|⟨hv,r,hE,hr⟩;exact Bu I h Je (Ji o_) hv hF Z Ja;have hT:∀(X:AT) (vI3 vO3:BY),IS C X (some q) vI3 vO3 (st (fT s))->Calls prog 106 #[pV C.P,.agg #[.iface tu xu,.slice a1 J.length c1]] X λx w'=>qE C X q vO3 (pX r) (dg r) z' x w':=λX vI3 vO3 hX=>D7 I hX (λY hY=>Jl hE Jt Jd Jb Y vI3 vO3 hY);have e:ec=pX r/\vc=dg r:=by
   rcases hr with⟨rfl,rfl,rfl⟩|⟨Xj,rfl,rfl⟩;exact⟨rfl,rfl⟩;refine⟨(Im λe=>?_).symm,rfl⟩;cases r using ER.cs with
   | val v=>exact hE.nov rfl v rfl
   | on=>exact Xj rfl
   | ret v=>exact absurd e (by decide:(2:Int)≠0)
   | out c=>rcases hE.outc c rfl with e1|e1 <;> (subst e1;exact absurd e d_)
  rw[e.1,e.2];exact D9 I h Je (.inr ⟨rfl,rfl,_,_,_,rfl,rfl,rfl⟩) (Ji o_) (IN hv) hT hF Z Ja
 ·rcases Jh with⟨h9,rfl⟩|⟨h9,rfl⟩|⟨h9,rfl⟩|⟨h9,va,vb,J,Lb,rfl,Jb,Jd,Jg,Jj⟩|⟨h9,va,J,rfl,Jb,Jd⟩|⟨h9,rfl⟩|⟨h9,rfl⟩|⟨h9,rfl⟩ <;> first|omega|skip;rw[Jk]at Jc⊢;cases Jc
  exact Bt I h Je (Ji o_) hF Z Ja
 ·rcases Jh with⟨h9,rfl⟩|⟨h9,rfl⟩|⟨h9,rfl⟩|⟨h9,va,vb,J,Lb,rfl,Jb,Jd,Jg,Jj⟩|⟨h9,va,J,rfl,Jb,Jd⟩|⟨h9,rfl⟩|⟨h9,rfl⟩|⟨h9,rfl⟩ <;> first|omega|skip;rw[Jk]at Jc⊢;cases Jc
  refine F0 I h Je (Ji o_) ?_ hF Z Ja;have h1:=Ju.2.1;have h2:=h.uu.2;simp only[ES.sp]at h1;omega
 rcases Jh with⟨h9,rfl⟩|⟨h9,rfl⟩|⟨h9,rfl⟩|⟨h9,va,vb,J,Lb,rfl,Jb,Jd,Jg,Jj⟩|⟨h9,va,J,rfl,Jb,Jd⟩|⟨h9,rfl⟩|⟨h9,rfl⟩|⟨h9,rfl⟩ <;> first|omega|skip;rw[Jk]at Jc⊢;cases Jc
 exact F_ I h Je hF Z Ja
end
section
variable{C:IC}{w:AT}{b n:Nat}{vI vO:BY}{z:ES}{t:Tr}{fr:List Int}{s:St}{a:List St}
def F4(hC:C.Ok){B:Nat}{U x1:BY}(h:IS C w (some b) vI vO z)(Z:aN w B [U,x1])(hB:C.w0.heap.size<=B)(J:¬dT C (some b) vO B)(e v:BY):
  IS C ((w.setCell ⟨B,0,none⟩ e).setCell ⟨B,1,none⟩ v) (some b) vI vO z/\aN ((w.setCell ⟨B,0,none⟩ e).setCell ⟨B,1,none⟩ v) B [e,v]/\aj (λk=>k=B) w ((w.setCell ⟨B,0,none⟩ e).setCell ⟨B,1,none⟩ v):=by
 have I:aj (λk=>k=B) w ((w.setCell ⟨B,0,none⟩ e).setCell ⟨B,1,none⟩ v):=((aj.refl (λk=>k=B) w).setCell (p:=⟨B,0,none⟩) rfl _).setCell (p:=⟨B,1,none⟩) rfl _;refine⟨h.past hC I (λk hk=>?_),(Z.set 0 e).set 1 v,I⟩;have e:k=B:=hk;subst e;exact⟨hB,λe=>J (.inr e),λe=>J (.inl (.inr (.inr e)))⟩
def gG.less{D:DataW Unit}{l l':List (Io×Int)}(h:gG D l)(hs:∀x∈l',x∈l):gG D l':=⟨h.map,λx v hx=>h.val x v (hs _ hx)⟩
def IS.cut(h:IS C w (some b) vI vO z)(m:Nat):IS C w (some b) vI vO {z with l:=z.l.take m}:=by refine⟨h.tc,h.box,h.gl,h.gw,h.g1,?_,h.inp,h.out,⟨h.ok.g,λx hx=>h.ok.l x (List.mem_of_mem_take hx),h.ok.i⟩,h.uu,h.nn⟩;rcases h.var with⟨e,-⟩|⟨q,n,D,e,I,h2,h3⟩;cases e;exact .inr ⟨q,n,D,e,I,h2.less (λx hx=>List.mem_of_mem_take hx),h3⟩
def Eb{j:Nat}{l:List St}{b Ja:List St}{r:ER}{I:ES}(Z:wV l s a b)(h:Ev t fr j (.sq (l++Ja)) z r I)(hj:j<=n)(Jb:OkW z):∃r1 z1,vZ t fr n s a b z r1 z1/\((r1 ≠ .on/\r=r1/\I=z1)\/(r1=.on/\z1.l.map Prod.fst=aP s (z.l.map Prod.fst)/\∃j',j'<=n/\Ev t fr j' (.sq Ja) z1 r I)):=by
 have e:l++Ja=s::(a++b++Ja):=by rw[Z.is];simp
 have⟨e1,e2,e3⟩:=Z.take Ja;rw[e]at h;rcases Hf h with⟨J,rfl,rfl⟩|⟨J,U,r1,z1,rfl,h2,h3⟩
 exact⟨.out 2,I,.inl ⟨J,rfl,rfl⟩,.inl ⟨(λe=>by cases e),rfl,rfl⟩⟩;rw[e1,e2]at h2;refine⟨r1,z1,.inr ⟨J,h2.ups o_⟩,?_⟩;rcases h3 with⟨h4,rfl,rfl⟩|⟨rfl,h4⟩;exact .inl ⟨h4,rfl,rfl⟩;rw[e3]at h4;have hn:=uW U h2 (⟨Jb.g,Jb.l,Jb.i⟩:OkW z.sp);exact .inr ⟨rfl,hn,U,o_,h4⟩
def Ec{b:List St}{vc:Int}{J:ES}(h:Lk t fr n s a b z 1 vc J)(Jb:OkW z):J.l.map Prod.fst=z.l.map Prod.fst:=by
 have Ja:OkW z.sp:=⟨Jb.g,Jb.l,Jb.i⟩;rcases h with⟨-,h,-⟩|⟨-,⟨h5,r,I,h,-⟩|⟨h5,⟨c,I,h,-⟩|⟨-,h,-⟩|⟨v,Z,r,g1,g2,g3,⟨rfl,-,-⟩|⟨-,h,-⟩⟩⟩⟩;cases h;exact absurd h.symm (oh I);rcases I.outc c rfl with e|e <;> (subst e;cases h)
 cases h;have U:=g1.inv Ja trivial;have i3:=g3.inv U.1 trivial;have e1:Z.l=z.l:=U.2.2.2.2.2;have e3:J.l.map Prod.fst=Z.l.map Prod.fst:=i3.2.2.2.2.2;rw[e3,e1];exact absurd h.symm (oh g3)
def Bw(L:List (BY×List St))(k:Nat)(h:k<L.length):aG (L.drop k)=(L.getD k (.nilFunc,[])).2++aG (L.drop (k+1)):=by rw[drop_eq_getElem_cons h,flatL_cons];simp[List.getD,h]
end
section
variable{C:IC}{vO vI1 vO1:BY}{W1 wr:AT}{M n b:Nat}{s:St}{a:List St}{r:ER}{zc:ES}
structure Jw (C:IC) (n:Nat) (L:List (BY×List St)) (r:ER) (z2:ES) (W0:AT) (b:Nat) (vO:BY) (M:Nat) (k:Nat) (wr:AT) (vI1 vO1:BY) (zc:ES):Prop where
 ev:∃j,j<=n/\Ev C.t C.fr j (.sq (aG (L.drop k))) zc r z2
 st:IS C wr (some b) vI1 vO1 zc
 ok:wC C.t (zc.l.map Prod.fst) (aG (L.drop k))
 sc:qO C.t (zc.l.map Prod.fst)
 tc:aj (dT C (some b) vO) W0 wr
 oo:∀k,vO1.ownBlock=some k->vO.ownBlock=some k\/W0.heap.size<=k
 mm:aN wr M [V 0,V 0]
structure IA (C:IC) (n:Nat) (s:St) (a c:List St) (r1:ER) (z1:ES) (nm:List Io) (W1:AT) (b:Nat) (vO:BY) (M B:Nat) (wr:AT) (vI1 vO1:BY) (zc:ES) (en vv:Int):Prop where
 pe:(en=1/\vZ C.t C.fr n s a c zc r1 z1/\zc.l.map Prod.fst=nm)\/(en≠1/\en=cH r1/\vv=dg r1/\zc=z1)
 st:IS C wr (some b) vI1 vO1 zc
 tc:aj (λk=>dT C (some b) vO k\/k=B) W1 wr
 oo:∀k,vO1.ownBlock=some k->vO.ownBlock=some k\/W1.heap.size<=k
 mm:aN wr M [V 0,V 0]
 bx:aN wr B [V en,V vv]
def om{q:Nat}{vO2:BY}(hM:¬dT C (some q) vO M)(hM0:M<W1.heap.size)(ho:∀k,vO2.ownBlock=some k->vO.ownBlock=some k\/W1.heap.size<=k):¬dT C (some q) vO2 M:=λhk=>by rcases hk with hk|hk;rcases hk with h1|h1|h1;exact hM (.inl (.inl h1));exact hM (.inl (.inr (.inl h1)));rcases ho M h1 with h2|h2;exact hM (.inl (.inr (.inr h2)));omega;exact hM (.inr hk)
theorem Ed{t:Tr}{fr:List Int}{b:List St}{z:ES}{z':ES}(h:vZ t fr n s a b z r z')(hr:r ≠ .on):cH r≠0:=λe=>by
 rcases h with⟨-,rfl,-⟩|⟨-,h⟩;cases e;cases r using ER.cs with
 | val v=>exact h.nov rfl v rfl
 | on=>exact hr rfl
 | ret v=>exact absurd e (by decide:(2:Int)≠0)
 | out c=>rcases h.outc c rfl with e1|e1 <;> (subst e1;exact absurd e d_)
def Ee(hC:C.Ok){L:List (BY×List St)}{Z:ES}{W0:AT}{k:Nat}(hS:Jw C n L r Z W0 b vO M k wr vI1 vO1 zc)(hk:k<L.length)(Ji:Bv C.w0 C.S (L.getD k (.nilFunc,[])).1 (L.getD k (.nilFunc,[])).2):
  ∃s a c us t x r1 z1,(L.getD k (.nilFunc,[])).1=.iface t x/\Jo C (.iface t x) s a c us/\(∀i,i<fT s->Tv C.w0 C.S (us i) (Br s i))/\stmtB s=true/\GJ C.t (zc.l.map Prod.fst) s/\(s.kd=4\/s.kd=5->wC C.t (zc.l.map Prod.fst) a/\wC C.t (zc.l.map Prod.fst) c)/\vZ C.t C.fr n s a c zc r1 z1/\((r1 ≠ .on/\cH r1≠0/\r=r1/\Z=z1)\/(r1=.on/\∀wX vIx vOx,IS C wX (some b) vIx vOx z1->aj (dT C (some b) vO) W0 wX->(∀k,vOx.ownBlock=some k->vO.ownBlock=some k\/W0.heap.size<=k)->aN wX M [V 0,V 0]->Jw C n L r Z W0 b vO M (k+1) wX vIx vOx z1)):=by
 have⟨s,a,c,us,J,Jd,Jg⟩:=D6 Ji;obtain⟨t,x,f,Jc,-,-⟩:=v_ hC Jd (λi hi=>(Jg i hi).isI);obtain⟨⟨j,hj,hE⟩,h2,h3,h4,h5,h6,h7⟩:=hS;rw[Bw L k hk]at hE h3;have⟨r1,z1,hP,Ja⟩:=Eb J hE hj h2.ok;have e:(L.getD k (.nilFunc,[])).2++aG (L.drop (k+1))=s::(a++c++aG (L.drop (k+1))):=by rw[J.is];simp
 have⟨e1,e2,e3⟩:=J.take (aG (L.drop (k+1)));rw[e]at h3;obtain⟨Jf,Jb,Je,-⟩:=h3.cons;rw[e1,e2]at Jb;rw[e3]at Je;have Jh:=(h3.ok s (mem_cons_self ..)).1;refine⟨s,a,c,us,t,x,r1,z1,Jc,by rw[<-Jc];exact Jd,Jg,Jh,Jf,Jb,hP,?_⟩;rcases Ja with⟨I,h,U⟩|⟨I,h,j',U,g4⟩
 exact .inl ⟨I,Ed hP I,h,U⟩;exact .inr ⟨I,λwX vIx vOx q1 q2 q3 q4=>⟨⟨j',U,g4⟩,q1,by rw[h];exact Je,by rw[h];exact h4.add Jf,q2,q3,q4⟩⟩
def F5(hC:C.Ok)(hI:JN C n){c:List St}{us:Nat->BY}{t:JZ}{x:BY}{r1:ER}{z1:ES}{nm:List Io}{B:Nat}{vv:Int}(h:IA C n s a c r1 z1 nm W1 b vO M B wr vI1 vO1 zc 1 vv)
  (Jn:Jo C (.iface t x) s a c us) (Ju:∀i,i<fT s->Tv C.w0 C.S (us i) (Br s i)) (Jp:stmtB s=true) (Jr:GJ C.t nm s) (Jt:qO C.t nm) (Jm:s.kd=4\/s.kd=5->wC C.t nm a/\wC C.t nm c) (Js:¬dT C (some b) vO M) (Jf:M<W1.heap.size) (Jg:¬dT C (some b) vO B) (Jc:B<W1.heap.size) (Jq:C.w0.heap.size<=B) (Jl:M≠B):
  ∃ec vc z3,(ec=1->z3.u+1<=zc.u)/\Calls prog 78 #[pV C.P,.iface t x] wr λe w5=>e=rW (.agg #[V ec,V vc])/\aN w5 B [V 1,V vv]/\∃vI5 vO5,IA C n s a c r1 z1 nm W1 b vO M B ((w5.setCell ⟨B,0,none⟩ (V ec)).setCell ⟨B,1,none⟩ (V vc)) vI5 vO5 z3 ec vc:=by
 obtain⟨J,h2,h3,h4,h5,h6⟩:=h;obtain⟨-,hP,Jb⟩:(1:Int)=1/\vZ C.t C.fr n s a c zc r1 z1/\zc.l.map Prod.fst=nm:=by rcases J with J|⟨J,-⟩;exact J;exact absurd rfl J
 have⟨ec,vc,z3,hL,Ja⟩:=hP.look;refine⟨ec,vc,z3,λhe=>?_,?_⟩
 rcases Ja with⟨I,-⟩|⟨-,g2,-⟩;exact absurd he I;omega;have hc:=hI s a c us (.iface t x) zc ec vc z3 hL (by rw[Jb];exact Jr) (by rw[Jb];exact Jt) Jp (by rw[Jb];exact Jm) Jn Ju wr b vI1 vO1 h2;have Jh:=om Js Jf h4;have Ji:=om Jg Jc h4;have Je:M<wr.heap.size:=l_ Jf h3.size;have Jj:B<wr.heap.size:=l_ Jc h3.size;have Jv:=h3.size;refine hc.mono λe w5 hQ=>?_;obtain⟨vI5,vO5,rfl,q1,U,q3⟩:=hQ;have Jd:=h6.tcs Jj U Ji;have Jk:=h5.tcs Je U Jh;have ho:∀k,vO5.ownBlock=some k->vO.ownBlock=some k\/W1.heap.size<=k:=λk hk=>by rcases q3 k hk with g|g;exact h4 k g;exact .inr o_
 have⟨p1,p2,p3⟩:=F4 hC q1 Jd Jq (om Jg Jc ho) (V ec) (V vc);refine⟨rfl,Jd,vI5,vO5,?_,p1,?_,ho,?_,p2⟩
 rcases Ja with⟨I,g2,Z,g4⟩|⟨I,g2,Z⟩;exact .inr ⟨I,g2,Z,g4⟩;refine .inl ⟨I,Z,?_⟩;rw[I]at hL;rw[Ec hL h2.ok,Jb];refine((h3.next U (λk hk=>?_))).next p3 (λk hk=>.inl (.inr hk));rcases hk with hk|hk;rcases hk with g|g|g;exact .inl (.inl (.inl (.inl g)));exact .inl (.inl (.inl (.inr (.inl g))));rcases h4 k g with g|g;exact .inl (.inl (.inl (.inr (.inr g))));exact .inr g;exact .inl (.inl (.inr hk));exact Jk.tcs (l_ Je U.size) p3 (λe=>Jl e)
def Jp{u U:Nat}{I:Int}{J:Nat}(h:u+1<=U)(Z:I=1->J+1<=u):∃g,g<U/\(I=1->J+1<=g):=by by_cases e:I=1;exact⟨J+1,Ka (Z e),λ_=>n_⟩;exact⟨0,o_,λh=>absurd h e⟩
def Bx(J:C.Ok)(Ja:W1=wr.alloc (.cells #[V 1,V 0] 65))(h:IS C wr (some b) vI1 vO1 zc)(Z:aN wr M [V 0,V 0]):Bl wr W1/\aN W1 wr.heap.size [V 1,V 0]/\¬dT C (some b) vO1 wr.heap.size/\wr.heap.size<W1.heap.size/\C.w0.heap.size<=wr.heap.size/\M≠wr.heap.size/\M<W1.heap.size/\IS C W1 (some b) vI1 vO1 zc/\aN W1 M [V 0,V 0]:=by
 have I:Bl wr W1:=by rw[Ja];exact r_.alloc n_ _
 have U:aN W1 wr.heap.size [V 1,V 0]:=by rw[Ja];exact aI wr _ _ i_
 have hM:=b_ (Z 0 _ rfl).1;have Jc:M<wr.heap.size:=hM;have hB:=b_ (U 0 _ rfl).1;have Jb:wr.heap.size<W1.heap.size:=hB;exact⟨I,U,λhk=>Ka (dT.lt J h _ hk),Jb,(h.hi J).2.2,o_,o_,h.below J I,Z.below I⟩
theorem Ef(hC:C.Ok)(Ye:JN C n):Jv C (n+1):=by
 intro L z r z' hE Xx Xj w b vI vO vB h hB;obtain⟨z2,Xq,Xt⟩:∃z2,Ev C.t C.fr n (.sq (aG L)) z r z2/\z'={z2 with l:=z2.l.take z.l.length}:=by
  cases hE using Ev_i with
  | blk _ _ _ _ z2 h1=>exact⟨z2,h1,rfl⟩
 have⟨W0,M,Xv,hM,Jr,Xi,Xp⟩:=iA w;have Yh:w.heap.size<=M:=Nat.le_of_eq hM.symm;have Yr:¬dT C (some b) vO M:=λhk=>Ka (dT.lt hC h M hk)
 obtain⟨Ys,Xr,-⟩:=hB.parts;obtain⟨a1,c1,rfl,Y_,Zb,Yc⟩:=Ys;have Je:Hid (∀(wX:AT) (vIx vOx:BY),IS C wX (some b) vIx vOx z2->aj (dT C (some b) vO) W0 wX->(∀k,vOx.ownBlock=some k->vO.ownBlock=some k\/W0.heap.size<=k)->aN wX M [V 0,V 0]->DO ((wX.setCell ⟨M,0,none⟩ (V (cH r))).setCell ⟨M,1,none⟩ (V (dg r))) M 0 (V (cH r))/\DO ((wX.setCell ⟨M,0,none⟩ (V (cH r))).setCell ⟨M,1,none⟩ (V (dg r))) M 1 (V (dg r))/\qE C w b vO (cH r) (dg r) z' (rW (.agg #[V (cH r),V (dg r)])) ((wX.setCell ⟨M,0,none⟩ (V (cH r))).setCell ⟨M,1,none⟩ (V (dg r)))):=λwX vIx vOx hI ht ho hm=>by
  have:=eM hC Yh h Jr Xp (hI.cut z.l.length) ht ho r_ hm (cH r) (dg r)
  rw[Xt];exact this
 have Jc:Hid (Jw C n L r z2 W0 b vO M 0 W0 vI vO z):=⟨⟨n,n_,Xq⟩,h.below hC Jr,Xx,Xj,aj.refl _ _,λk hk=>.inl hk,Xi⟩;have Zf:L.length<=9223372036854775807:=o_;have Yk:=ah Ye;have HC:=ah hC;have Yj:=ah Xr;have Yu:=ah Yc;have Yt:=ah Xv;have HM:=ah hM;have Zd:C.w0.heap.size<=w.heap.size:=(h.hi hC).2.2;have Yl:=Jr.size;clear Ye hC Xr Yc Xv hM h hE Xq Xx Xj Xt Jr Xi;go_in;go_upto_region 1 with fail;rw[<-Yt.o,<-HM.o];go_wp2;go_loopw[10] (λi wr=>∃(k:Nat) (Jl Jd:BY) (zc:ES),i=V (k:Int)/\k<=L.length/\Jw C n L r z2 W0 b vO M k wr Jl Jd zc) (λi _=>L.length-(RowKit.intOf i).toNat)
 case atStart=>exact⟨0,vI,vO,z,rfl,y_,Jc⟩
 case round=>
  clear Jc;obtain⟨k,Jl,Jd,zc,rfl,Ze,J⟩:=hrel;by_cases hlt:k<L.length
  ·have Za:(k:Int)<(L.length:Int):=o_
   obtain⟨Q,rfl,Xa,Ya⟩:=Yu o_;have⟨s,a,c,us,t,x,r1,z1,Xf,Xk,Yd,Xm,Yb,Xy,hP,Xn⟩:=Ee HC J hlt (Yj k hlt);have Ym:DO wr Q k (.iface t x):=by rw[<-Xf];exact(c_ (a:=⟨Q,k,none⟩) (J.st.tc.block Q (HC.o.sS Q Xa).1 (λe=>e.elim (HC.o.sS Q Xa).2.1 (HC.o.sS Q Xa).2.2))).trans (Ya k hlt)
   have⟨W1,Jy⟩:=q_ (wr.alloc (.cells #[V 1,V 0] 65));have⟨Xd,Xb,Xc,Jt,Jx,J_,Xg,Xh,X_⟩:=Bx HC Jy J.st J.mm;have⟨B,hB⟩:=q_ wr.heap.size;rw[<-hB]at Xb Xc Jt Jx J_;have Jk:¬dT C (some b) Jd M:=om Yr Xp J.oo;have Xu:Hid (IA C n s a c r1 z1 (zc.l.map Prod.fst) W1 b Jd M B W1 Jl Jd zc 1 0):=⟨.inl ⟨rfl,hP,rfl⟩,Xh,aj.refl _ _,λk hk=>.inl hk,X_,Xb⟩;have Jh:=ah λ(wi:AT) (Jb:BY) (Ja:BY) (zi:ES) (Z:Int) (I:IA C n s a c r1 z1 (zc.l.map Prod.fst) W1 b Jd M B wi Jb Ja zi 1 Z)=>F5 HC Yk I Xk Yd Xm Yb J.sc Xy Jk Xg Xc Jt Jx J_;have Yx:Hid (∀(wi:AT) (Jb Ja:BY) (zi:ES) (U Z:Int),IA C n s a c r1 z1 (zc.l.map Prod.fst) W1 b Jd M B wi Jb Ja zi U Z->aj (dT C (some b) vO) W0 wi/\∀k,Ja.ownBlock=some k->vO.ownBlock=some k\/W0.heap.size<=k):=λwi Jb Ja zi U Z I=>by have hs:=J.tc.size;have Zc:=Xd.size;have h1:aj (dT C (some b) vO) W0 W1:=J.tc.of_below Xd;refine⟨h1.next I.tc (λk hk=>?_),λk hk=>?_⟩;rcases hk with hk|hk;rcases hk with hk|hk;rcases hk with g|g|g;exact .inl (.inl (.inl g));exact .inl (.inl (.inr (.inl g)));rcases J.oo k g with g|g;exact .inl (.inl (.inr (.inr g)));exact .inr g;exact .inl (.inr hk);exact .inr o_;rcases I.oo k hk with g|g;exact J.oo k g;exact .inr o_
   have Yq:=ah Jy;have HB:=ah hB;have Yi:=ah Xn;have Yg:¬B=M:=λe=>J_ e.symm;clear J Ya Xf Xk Yd Xm Yb Xy hP Xn Jy Xd Xb Xc Jt Jx Xg Xh X_ hB Jk;go_upto_region 4 with fail;clear Ym;go_wp2_with fail;rw[<-Yq.o,<-HB.o];go_loopg[] (zc.u+1) (λgk wi=>∃(Jb Ja:BY) (zi:ES) (U Z:Int),(U=1->zi.u+1<=gk)/\IA C n s a c r1 z1 (zc.l.map Prod.fst) W1 b Jd M B wi Jb Ja zi U Z)
   case atStart=>exact⟨Jl,Jd,zc,1,0,λ_=>n_,Xu⟩
   case round=>
    clear Xu;obtain⟨Jb,Ja,zi,U,Z,Xz,I⟩:=hrel;have Yn:=(I.bx 0 _ rfl).1;have Yo:=(I.bx 1 _ rfl).1;by_cases he:U=1
    ·subst he;have⟨ec,vc,z3,Xs,Jf⟩:=Jh wr Jb Ja zi Z I;have⟨g2,Yv,Xl⟩:=Jp (Xz rfl) Xs;have Ji:=ah Jf;have HG:=ah Xl;clear Jf I Xl Xs Xz;go_wp2_with fail;refine Ji.o.mono ?_;rintro e w5 ⟨rfl,Jz,Yw,Yy,Xo⟩;have Yp:=ah Xo;have⟨y0,f0⟩:=Jz 0 _ rfl;have⟨y1,f1⟩:=Jz 1 _ rfl;clear Jz Xo Yn Yo;go_wp2;go_roundg g2
     case measure=>exact Yv
     case rel=>exact⟨Yw,Yy,z3,ec,vc,HG,Yp⟩
    have Yz:(U == 1)=false:=(IN he);obtain⟨Jg,Jq,Js⟩:U=cH r1/\Z=dg r1/\zi=z1:=by rcases I.pe with⟨e,-⟩|⟨-,e⟩;exact absurd e he;exact e
    have⟨hT,Jo⟩:=Yx wr Jb Ja zi U Z I;rcases Yi.o with⟨Jn,Jm,Ju,Xw⟩|⟨Jn,Jm⟩
    ·have Yf:(U != 0)=true:=(by rw[Jg];simpa using Jm);have HF:=ah (Je wr Jb Ja (by rw[Xw,<-Js];exact I.st) hT Jo I.mm);rw[Ju,<-Jg,<-Jq]at HF;have⟨y0,f0⟩:=I.mm 0 _ rfl;have⟨y1,f1⟩:=I.mm 1 _ rfl;have HR:Hid (cH r=U/\dg r=Z):=(by rw[Ju];exact⟨Jg.symm,Jq.symm⟩);clear I Jg Jq Js hT Jo Jn Jm Ju Xw he Je;go_wp2_with fail;obtain⟨t0,t1,hQ⟩:=HF;refine bodyPost_ret (v:=.agg #[V U,V Z]) (by simp[results,results53,go_sem,t0,t1]) rfl ?_;rw[HR.o.1,HR.o.2];exact hQ
    have Xe:U=0:=(by rw[Jg,Jn];rfl);have Jj:=ah (Jm wr Jb Ja (by rw[<-Js];exact I.st) hT Jo I.mm);have Yf:(U != 0)=false:=(by rw[Xe];rfl);clear I Jg Jq Js hT Jo Jn Jm he Xe;go_wp2;go_roundw
    case rel=>exact⟨k+1,Jb,Ja,z1,by go_num,o_,Jj⟩
    case measure=>exact IF
  obtain rfl:k=L.length:=(by omega);obtain⟨j,-,hE⟩:=J.ev;rw[drop_length]at hE;obtain⟨rfl,rfl⟩:r=.on/\z2=zc:=by
   cases hE using Ev_i with
   | nil=>exact⟨rfl,rfl⟩
  have HF:=ah (Je wr Jl Jd J.st J.tc J.oo J.mm);have⟨y0,f0⟩:=J.mm 0 _ rfl;have⟨y1,f1⟩:=J.mm 1 _ rfl;simp only[show cH ER.on=0 from rfl,show dg ER.on=0 from rfl]at HF;clear J hE Je;go_wp2_with fail;obtain⟨t0,t1,hQ⟩:=HF;exact bodyPost_ret (v:=.agg #[V 0,V 0]) (by simp[results,results53,go_sem,t0,t1]) rfl hQ
end
section
variable{C:IC}{w:AT}{vV:Option Nat}{vI vO:BY}{s s':ES}
def IS.now(J:C.Ok)(h:IS C w vV vI vO s)(x:Int)(U:s'={s with n:=x})(I:0<=x/\x+1000000000*(s.u:Int)<=100001000000000):IS C (w.setCell ⟨C.P,10,none⟩ (V x)) vV vI vO s':=by subst U;exact h.boxed J 10 _ rfl rfl rfl rfl h.inp ⟨h.ok.g,h.ok.l,h.ok.i⟩ n_ ⟨I.1,I.2,h.nn.2.2.1,h.nn.2.2.2⟩
def IS.deep(J:C.Ok)(h:IS C w vV vI vO s)(x:Int)(U:s'={s with d:=x})(I:0<=x/\x<=100001000000000):IS C (w.setCell ⟨C.P,11,none⟩ (V x)) vV vI vO s':=by subst U;exact h.boxed J 11 _ rfl rfl rfl rfl h.inp ⟨h.ok.g,h.ok.l,h.ok.i⟩ n_ ⟨h.nn.1,h.nn.2.1,I.1,I.2⟩
def IS.swap(Z:C.Ok){Ja:Option Nat}{l2:List (Io×Int)}(h:IS C w vV vI vO s)(J:(Ja=none/\l2=[])\/∃b n D,Ja=some b/\w.ownsMap prog 9 (plainElem (H:=Unit) prog 2) b n D/\gG D l2/\n+s.u<=100010/\C.w0.heap.size<=b/\vO.ownBlock≠some b)(hl:∀x∈l2,d7 x.2):IS C (w.setCell ⟨C.P,5,none⟩ (.map Ja)) Ja vI vO {s with l:=l2}:=by
 have⟨p1,U,p3⟩:=h.hi Z;have⟨q1,q2,q3,q4,q5⟩:=Z.pg;have I:aj (λk=>k=C.P) w (w.setCell ⟨C.P,5,none⟩ (.map Ja)):=(aj.refl (λk=>k=C.P) w).setCell (p:=⟨C.P,5,none⟩) rfl _;refine⟨h.tc.trans (I.mono λk hk=>.inl hk),h.box.set 5 _,h.gl,λk hk=>(h.gw k hk).tcs (U _ (g_ hk)).1 I (U _ (g_ hk)).2,h.g1,?_,h.inp,fP h.out I (λk hk hs=>by have e:k=C.P:=hs;have:=(World.ownsRow.lt h.out k hk).1;omega),⟨h.ok.g,hl,h.ok.i⟩,h.uu,h.nn⟩;rcases J with J|⟨b,n,D,rfl,h1,h2,h3,h4,h5⟩
 exact .inl J;exact .inr ⟨b,n,D,rfl,bX h1 I (λe=>by have e':b=C.P:=e;omega),h2,h3,h4,h5⟩
def wg{f:Fu}{vs:List Int}(hl:vs.length=f.pm.length)(Jb:f.pm.Nodup){k:Nat}(U:k<f.pm.length)(p:Io)(u:Int)(h:(p,u)∈(eU f vs).take (k+1)):(p=f.pm[k]/\u=vs[k]'(by omega))\/(p≠f.pm[k]/\(p,u)∈(eU f vs).take k):=by
 have Z:(eU f vs).length=f.pm.length:=by unfold eU;rw[length_zip];omega
 have⟨i,J,I⟩:=getElem_of_mem h;rw[length_take]at J;rw[getElem_take]at I;have Ja:(f.pm[i]'(by omega),vs[i]'(by omega))=(p,u):=by rw[<-I];unfold eU;rw[getElem_zip]
 cases Ja;by_cases e:i=k;subst e;exact .inl ⟨rfl,rfl⟩;refine .inr ⟨λh1=>e (pD Jb o_ U h1),?_⟩;rw[mem_take_iff_getElem];exact⟨i,o_,I⟩
theorem Eg(r:ER)(h:cH r=2):cH r.back=0\/∃c,r=.out c:=by
 cases r using ER.cs with
 | val v=>cases h
 | on=>cases h
 | ret v=>exact .inl rfl
 | out c=>exact .inr ⟨c,rfl⟩
def wh(r:ER):dg r.back=dg r:=by cases r using ER.cs <;> rfl
theorem F6(r:ER)(h:cH r≠2):cH r.back=cH r:=by
 cases r using ER.cs with
 | val v=>rfl
 | on=>rfl
 | ret v=>exact absurd rfl h
 | out c=>rfl
end
end
open Go.World List
def Ip{C:IC}(Z:C.Ok){w W0 W6 I W8:AT}{vV:Option Nat}{vI U Jg Ja:BY}{s J:ES}{q M:Nat}{F1 en vv:Int}(h:IS C w vV vI U s)(Jp:Bl w W0)(hq:q=W0.heap.size)(hM:M=w.heap.size)(J_:M<W0.heap.size)(Ji:aj (λk=>k=C.P\/k=q) W0 W6)(Jw:aN W6 M [V 0,V 0])(Jo:IS C I (some q) Jg Ja J)(Jf:aj (dT C (some q) U) W6 I)(Jx:∀k,Ja.ownBlock=some k->U.ownBlock=some k\/W6.heap.size<=k)(hn:J.n=s.n+F1)(hu:J.u<=s.u)(Jq:W8=I.alloc (.cells #[V en,V vv] 65)):
  I.heap.size≠M/\C.P≠I.heap.size/\IS C W8 (some q) Jg Ja J/\∀W9 W11,Bl W8 W9->W11=(W9.setCell ⟨C.P,10,none⟩ (V s.n)).setCell ⟨C.P,5,none⟩ (.map vV)->(∀k,Ja.ownBlock=some k->U.ownBlock=some k\/W0.heap.size<=k)/\aN W11 I.heap.size [V en,V vv]/\(IS C W11 vV Jg Ja {J with l:=s.l,n:=J.n-F1}/\aj (de C U) W0 W11/\aN W11 M [V 0,V 0])/\(IS C (W11.setCell ⟨I.heap.size,0,none⟩ (V 0)) vV Jg Ja {J with l:=s.l,n:=J.n-F1}/\aj (de C U) W0 (W11.setCell ⟨I.heap.size,0,none⟩ (V 0))/\aN (W11.setCell ⟨I.heap.size,0,none⟩ (V 0)) M [V 0,V 0]):=by
 have⟨p1,p2,p3⟩:=h.hi Z;have⟨q1,q2,q3,q4,q5⟩:=Z.pg;have s0:=Jp.size;have s6:=Ji.size;have s7:=Jf.size;have Ju:=λk hk=>World.ownsRow.lt h.out k hk;have Jv:M<W6.heap.size:=o_
 have Jt:¬dT C (some q) U M:=λhk=>by
  rcases hk with hk|hk
  ·rcases hk with g|g|g
   ·omega
   ·have:=(p2 M g).1;omega
   have:=(Ju M g).2;omega
  cases hk;omega
 have Js:=Jw.tcs Jv Jf Jt;have Jc:Bl I W8:=by rw[Jq];exact r_.alloc n_ _
 have Jn:aN W8 I.heap.size [V en,V vv]:=by rw[Jq];exact aI I _ _ i_
 have Jk:=Jo.below Z Jc;have ho:∀k,Ja.ownBlock=some k->U.ownBlock=some k\/W0.heap.size<=k:=λk hk=>(Jx k hk).imp_right (λg=>by omega);refine⟨o_,o_,Jk,λW9 W11 hb9 hW11=>?_⟩;have s8:=Jc.size;have s9:=hb9.size;have Jl:=Jk.below Z hb9;have Jz:=Jl.nn;have Jm:=h.nn;have Jh:=Jl.now Z (s':= {J with n:=s.n}) s.n rfl ⟨Jm.1,Ka Jm.2.1⟩;have Jj:aj (λk=>k=C.P) W9 (W9.setCell ⟨C.P,10,none⟩ (V s.n)):=(aj.refl (λk=>k=C.P) W9).setCell (p:=⟨C.P,10,none⟩) rfl _;have hv:(vV=none/\s.l=[])\/∃b n D,vV=some b/\(W9.setCell ⟨C.P,10,none⟩ (V s.n)).ownsMap prog 9 (plainElem (H:=Unit) prog 2) b n D/\gG D s.l/\n+J.u<=100010/\C.w0.heap.size<=b/\Ja.ownBlock≠some b:=by
  rcases h.var with hv|⟨b,n,D,e,h1,h2,h3,h4,h5⟩;exact .inl hv
  have Jy:=h1.lt;have m0:=bX h1 (Jp.tcs (S:=λ_=>False)) (λe=>e);have m6:=bX m0 Ji (λe=>e.elim (λe=>by omega) (λe=>by omega));have m7:=bX m6 Jf (λhk=>by
   rcases hk with hk|hk
   ·rcases hk with g|g|g
    ·omega
    ·have:=(q5 b g).2;omega
    exact h5 g
   cases hk;omega)
  have m8:=bX m7 (Jc.tcs (S:=λ_=>False)) (λe=>e);have m9:=bX m8 (hb9.tcs (S:=λ_=>False)) (λe=>e);refine .inr ⟨b,n,D,e,bX m9 Jj (λe=>by have e':b=C.P:=e;omega),h2,o_,h4,λe=>?_⟩;rcases ho b e with g|g;exact h5 g;omega
 have Jb:=Jh.swap Z (l2:=s.l) hv h.ok.l;rw[<-hW11]at Jb;have hz:({J with l:=s.l,n:=J.n-F1}:ES)={J with n:=s.n,l:=s.l}:=by rw[hn];simp
 rw[hz];have Je:aj (λk=>k=C.P) W9 W11:=by rw[hW11];exact Jj.setCell (p:=⟨C.P,5,none⟩) rfl _
 have Jr:aN W11 I.heap.size [V en,V vv]:=(Jn.below hb9).tcs (by have:=b_ (Jn 0 _ rfl).1;have e:I.heap.size<W8.heap.size:=this;omega) Je (λe=>by have e':I.heap.size=C.P:=e;omega);have Jd:aN W11 M [V 0,V 0]:=((Js.below Jc).below hb9).tcs o_ Je (λe=>by have e':M=C.P:=e;omega);have tE:aj (de C U) W0 W11:=by refine((((aj.refl (de C U) W0).next Ji (λk hk=>?_)).next Jf (λk hk=>?_)).of_below Jc).of_below hb9 |>.next Je (λk hk=>.inl (.inl hk));rcases hk with hk|hk;exact .inl (.inl hk);exact .inr o_;rcases hk with hk|hk;exact .inl hk;cases hk;exact .inr o_
 have tB:aj (λk=>k=I.heap.size) W11 (W11.setCell ⟨I.heap.size,0,none⟩ (V 0)):=(aj.refl (λk=>k=I.heap.size) W11).setCell (p:=⟨I.heap.size,0,none⟩) rfl _;refine⟨ho,Jr,⟨Jb,tE,Jd⟩,Jb.past Z tB (λk hk=>?_),tE.next tB (λk hk=>.inr (by have e:k=I.heap.size:=hk;omega)),Jd.tcs (Ka Je.size) tB (λe=>by have e':M=I.heap.size:=e;omega)⟩;have e:k=I.heap.size:=hk;refine⟨o_,λe2=>?_,λe2=>?_⟩;rcases h.var with⟨e3,-⟩|⟨b,n,D,e3,h1,-⟩;rw[e3]at e2;cases e2;rw[e3]at e2;cases e2
 have:=h1.lt
 omega
 have:=(World.ownsRow.lt Jo.out k e2).2
 omega
section
variable{C:IC}{W1 wr w':AT}{q M k:Nat}{vI vO:BY}{s:ES}{f:Fu}
structure Gu (C:IC) (W1:AT) (q:Nat) (vI vO:BY) (s:ES) (l:List (Io×Int)) (M k:Nat) (wr:AT):Prop where
 st:IS C wr (some q) vI vO {s with l:=l.take k}
 map:∃D,wr.ownsMap prog 9 (plainElem (H:=Unit) prog 2) q k D/\gG D (l.take k)
 tc:aj (λx=>x=q) W1 wr
 mm:aN wr M [V 0,V 0]
def Gu.below(U:C.Ok){l:List (Io×Int)}(h:Gu C W1 q vI vO s l M k wr)(I:Bl wr w'):Gu C W1 q vI vO s l M k w':=by have⟨D,J,h2⟩:=h.map;exact⟨h.st.below U I,⟨D,bX J (I.tcs (S:=λ_=>False)) (λe=>e),h2⟩,h.tc.of_below I,h.mm.below I⟩
def Bz{t:Tr}(h:(aQ t).1=0)(I:f∈t.fc):∀x∈f.pm,x.size<=maxLen:=λx hx=>by
 obtain⟨h1,-,h2⟩:=dA h;simp only[cM,J1,J2,all_eq_true]at h1;have hfb:=h1.2.2.2 f I;simp only[cC,J1,J2,stmtsB,all_eq_true]at hfb;have h3:=hfb.2.2.2.1 x hx;have:oq x:=by simpa[bh]using h3
 exact gV this.2.1 d_
def Gu.more(hC:C.Ok){vs:List Int}(h:Gu C W1 q vI vO s (eU f vs) M k wr)(hl:vs.length=f.pm.length)(Ja:f.pm.Nodup)(h6:f.pm.length<=6)(I:k<f.pm.length)(Jc:∀x∈vs,d7 x){D:DataW Unit}(hD:gG D ((eU f vs).take k))(hM:M≠q)(Z:w'.ownsMap prog 9 (plainElem (H:=Unit) prog 2) q (k+1) (D.put (kS f.pm[k]) (.lit (.int .i64 (vs[k]'(by omega))))))(hg:wr.grownBy w' (some q)):Gu C W1 q vI vO s (eU f vs) M (k+1) w':=by have J:aj (λx=>x=q) wr w':=aj.of_grown hg (λk I=>by cases I;rfl);have U:gG (D.put (kS f.pm[k]) (.lit (.int .i64 (vs[k]'(by omega))))) ((eU f vs).take (k+1)):=hD.put (wg hl Ja I);have Jb:=b_ (h.mm 0 _ rfl).1;refine⟨?_,⟨_,Z,U⟩,h.tc.trans J,h.mm.tcs Jb J hM⟩;have:=h.st.vars hC J Z U (by have:=h.st.uu.1;show k+1+s.u<=_;simp only at this;omega) (λy hy=>?_);exact this;rcases wg hl Ja I y.1 y.2 hy with⟨-,e⟩|⟨-,hm⟩;rw[e];exact Jc _ (g_ _);exact h.st.ok.l _ hm
theorem Eh(U:C.Ok){n:Nat}(IB:Jv C n):JL C (n+1):=by
 intro f vs s r s' hE Zm Vr Yp w vV vI vO va h hA;obtain⟨hf,J,z2,rfl,Yq,Jz⟩:∃(hf:f<C.t.fc.length) (J:ER) (z2:ES),r=J.back/\s'={z2 with l:=s.l,n:=z2.n-C.fr.getD f 0}/\Ev C.t C.fr n (.bl C.t.fc[f].bd) {s with l:=eU C.t.fc[f] vs,n:=s.n+C.fr.getD f 0,d:=max s.d (s.n+C.fr.getD f 0)} J z2:=by
  cases hE using Ev_i with
  | run _ _ _ _ hf J z2 h1=>exact⟨hf,J,z2,rfl,rfl,h1⟩
 have Xy:=Zm hf;have Ze:=Bz U.snd (g_ hf);have⟨Xx,Zc,Vi⟩:=yX U.snd (g_ hf);have⟨af,cf,Zn,Om,Uj,Zs⟩:=U.fs;have⟨b,Ou,Zv,hc⟩:=Zs o_;have⟨vp,vb,⟨c0,c1,c2⟩,Yn,Zh⟩:=hc f hf;have⟨fa,fc,Xc,Ur,Oj,Xp⟩:=U.frs;have Jk:f<C.fr.length:=by rw[U.frl];exact hf
 have⟨bF,oF,Zg,Vm⟩:=Xp o_;have cF:=Vm f Jk;have Uc:C.fr.getD f 0=C.fr[f]:=by simp[List.getD,Jk]
 have Xl:=U.frb _ (g_ Jk);rw[<-Uc]at cF Xl;generalize C.fr.getD f 0=F1 at cF Xl Yq Jz;have Yd:=xq Xy;have Ox:=U.sm.2;have U_:=U.frl;have⟨ba,bc,bL,Zi,Vl,Jh⟩:=U.bod f hf;rw[Jh]at Jz Xx;generalize C.t.fc[f]=fn at Xy Ze Xx Zc Vi c0 c1 c2 Yn Zh Jz Yd;have⟨ap,cp,Uo,V_,Um,Xe⟩:=id Yn;subst Uo;obtain⟨aA,cA,Uq,Ow,Op,Zr⟩:=hA;subst Uq;have⟨q1,q2,q3,q4,q5⟩:=U.pg;have⟨p1,p2,p3⟩:=h.hi U;have Vu:∀ {B i:Nat} {v:Value},C.wa.cell? ⟨B,i,none⟩=some v->B<C.wa.heap.size:=λe=>b_ e;have Yh:∀(X:World) (B i:Nat) (v:Value) (q:Option Nat) (vI vO:Value) (z:ES),IS C X q vI vO z->C.wa.cell? ⟨B,i,none⟩=some v->X.cell? ⟨B,i,none⟩=some v:=λX B i v q vI vO z hX e=>by
  have hB:=Vu e;have e0:C.w0.cell? ⟨B,i,none⟩=some v:=(U.bel.cell (p:=⟨B,i,none⟩) hB).trans e;refine(c_ (a:=⟨B,i,none⟩) (hX.tc.block B (by have:=U.bel.size;omega) (λe=>?_))).trans e0;rcases e with e|e;omega
  have:=(q5 B e).1;omega
 have⟨W0,M,Vk,hM,Yl,Yc,Xa⟩:=iA w;have Jm:=h.below U Yl;have Uk:C.P<W0.heap.size:=(Jm.hi U).1;have⟨q,hq⟩:=q_ W0.heap.size;have⟨W1,Yi⟩:=q_ ((W0.setCell ⟨C.P,5,none⟩ (.map (some W0.heap.size))).alloc (.map #[] 0));have J_:Bl W0 (W0.alloc (.map #[] 0)):=ao _ _;have Jb:(W0.alloc (.map #[] 0)).ownsMap prog 9 (plainElem (H:=Unit) prog 2) q 0 (.map []):=by rw[hq];exact World.ownsMap_made W0 prog 9 _
 have Zb:gG (.map []) []:=⟨dj.nil.map,λx v h=>by cases h⟩;have Ug:C.w0.heap.size<=q:=by have:=(Jm.hi U).2.2;omega
 have Uy:vO.ownBlock≠some q:=λe=>by have:=(World.ownsRow.lt Jm.out q e).2;omega
 have Jd:W1=(W0.alloc (.map #[] 0)).setCell ⟨C.P,5,none⟩ (.map (some q)):=by rw[Yi,hq,World.setCell_alloc_past _ _ _ _ Uk]
 have Xr:IS C W1 (some q) vI vO {s with l:=(eU fn vs).take 0}:=by rw[Jd];exact(Jm.below U J_).swap U (.inr ⟨q,0,_,rfl,Jb,Zb,by have:=h.uu.1;omega,Ug,Uy⟩) (λx hx=>by cases hx)
 have Y_:aj (λk=>k=C.P) W0 W1:=by rw[Jd];exact(J_.tcs (S:=λk=>k=C.P)).setCell (p:=⟨C.P,5,none⟩) rfl _
 have Vh:M≠C.P:=o_;have Zo:M≠q:=o_;have Vs:aN W1 M [V 0,V 0]:=Yc.tcs Xa Y_ Vh;have Ji:W1.ownsMap prog 9 (plainElem (H:=Unit) prog 2) q 0 (.map []):=by rw[Jd];exact bX Jb ((aj.refl (λk=>k=C.P) _).setCell (p:=⟨C.P,5,none⟩) rfl _) (λe=>by have e':q=C.P:=e;omega)
 have Zq:Hid (Gu C W1 q vI vO s (eU fn vs) M 0 W1):=⟨Xr,⟨_,Ji,by simpa using Zb⟩,aj.refl _ _,Vs⟩;have y1:=(Xr.box 1 _ rfl).1;have y5:=(Jm.box 5 _ rfl).1;have f5:=(Jm.box 5 _ rfl).2;rw[Zn,Zv]at y1;have d1:=Yh W1 _ _ _ _ _ _ _ Xr c1;have Oa:=ah Yi;have Yv:=ah Y_;have Zt:=ah Zc;have Vv:=ah Vr;have Yx:=ah Xy;have Ud:=ah Ze;have Xt:=ah Jz;have Vx:=ah Xx;have Vg:=ah Yd;have Uf:=ah Yq;have Ux:=ah Yp;have Od:=ah Xl;have Vd:=ah cF;have Us:=ah Vl;have Ut:=ah Zi;have Xg:Hid (C.vFr=.slice (some ⟨bF,oF,none⟩) C.fr.length fc):=by show _=_;rw[Xc,Zg]
 have HC:=ah U;have H0:=ah h;have Og:=ah Vk;have HM:=ah hM;have Xb:=ah Yl;have Uu:=ah Yc;have Zw:=ah IB;have Vo:=ah hq;have Up:=ah Zr;have Ob:=ah Xe;have Yr:=ah Yh;have Of:= @run_makeMap prog;clear U h Vk hM Yl Yc Jm IB hq Zr Xe Yh Vu hE Zm Yn Xp Vm Zs hc Zn Zv Yi J_ Jb Zb Jd Xr Y_ Vs Ji Zc Vr Xy Ze Jz Xx Yd Yq Yp Xl cF Vl Zi Xc Zg c0 c1 c2 Zh Jh;go_in;go_upto_region 1 with fail;rw[<-Og.out,<-HM.out];go_upto_region 3 with fail;rw[<-Oa.out];clear Of y5 f5;go_wp2;go_loopw[29] (λi wr=>∃k:Nat,i=V (k:Int)/\k<=fn.pm.length/\Gu C W1 q vI vO s (eU fn vs) M k wr) (λi _=>fn.pm.length-(RowKit.intOf i).toNat)
 case atStart=>exact⟨0,rfl,y_,Zq⟩
 case round=>
  clear Zq y1 d1;obtain⟨k,rfl,hk,hJ⟩:=hrel;by_cases hlt:k<fn.pm.length
  ·have Oq:(k:Int)<(fn.pm.length:Int):=o_
   obtain⟨bp,op,rfl,Xe⟩:=Ob.out o_;have dp:=Yr.out wr _ _ _ _ _ _ _ hJ.st (Xe k hlt);have⟨D,Vb,hD⟩:=hJ.map;have Vf:k<vs.length:=(by have:=Yx.out;omega);obtain⟨Z,rfl,J_,Oh,Zj⟩:=Up.out o_;have Os:(k:Int)<(vs.length:Int):=o_;have Vj:Z<w.heap.size:=J_;have Zf:wr.cell? ⟨Z,k,none⟩=some (V vs[k]):=by have h0:W0.cell? ⟨Z,k,none⟩=some (V vs[k]):=(Xb.out.cell (p:=⟨Z,k,none⟩) Vj).trans (Zj k Vf);have Va:Z<W0.heap.size:=l_ Vj Xb.out.size;have h1:W1.cell? ⟨Z,k,none⟩=some (V vs[k]):=(c_ (a:=⟨Z,k,none⟩) (Yv.out.block Z Va (λe=>Oh (.inl e)))).trans h0;refine(c_ (a:=⟨Z,k,none⟩) (hJ.tc.block Z (l_ Va Yv.out.size) (λe=>?_))).trans h1;have e':Z=q:=e;have:=Vo.out;omega
   have⟨W3,Js⟩:=q_ wr.drew;have Jp:Bl wr W3:=(by rw[Js];exact r_.drew);have Ju:=hJ.below HC.out Jp;have Xd:W3.ownsMap prog 9 (plainElem (H:=Unit) prog 2) q k D:=bX Vb (Jp.tcs (S:=λ_=>False)) (λe=>e);have Uw:=ah Xd;have I:Hid (W3.cell? ⟨C.P,5,none⟩=some (.map (some q))/\W3.cell? ⟨Z,k,none⟩=some (V vs[k])):=⟨(Ju.st.box 5 _ rfl).1,(Jp.cell (p:=⟨Z,k,none⟩) (b_ Zf)).trans Zf⟩;have Jc:=ah λw' (g1:w'.ownsMap prog 9 (plainElem (H:=Unit) prog 2) q (k+1) (D.put (kS fn.pm[k]) (.lit (.int .i64 vs[k])))) (g2:W3.grownBy w' (some q))=>Ju.more HC.out Yx.out Zt.out.1 Vi hlt Vv.out hD Zo g1 g2;have HZ:Hid (fn.pm[k].size<=maxLen):=Ud.out _ (g_ hlt);have Zk:Hid (-2147483648<=vs[k]/\vs[k]<=2147483647):=Vv.out _ (g_ Vf);have Xv:=ah Js;clear hJ Xe Zj Zf Js Jp Ju Xd Vb hD;generalize fn.pm[k]=pk at dp Jc HZ;generalize vs[k]=vk at I Jc Zk;have Ol:Hid (keyOf prog 9 (sV pk)=some (kS pk)):=WideMaps.keyOf_string_mk underlying9 HZ;have Un:Hid (plainElem (H:=Unit) prog 2 (V vk)=some (.lit (.int .i64 vk),[])):=plainElem_int underlying2 (WalkArith.wf_i64 (by have:=Zk.out;omega));have Uh:k<maxLen:=(by unfold maxLen;omega);have⟨w4,Uz,Jg,Ja⟩:=Uw.out.update (t:=67) (Maps.string_keyed underlying9) underlying67 Uh Ol.out Un;have On:=ah (Jc.out w4 Jg Ja);clear Jg Ja;go_upto_region 6 with fail;refine cq 9 (λX=>X.cell? ⟨C.P,5,none⟩=some (.map (some q))/\X.cell? ⟨Z,k,none⟩=some (V vk)) k_ ?_;rw[<-Xv.out];refine tk 0 [1,2,3,9] I.out ?_;refine tk 1 [2,3,9] I.out ?_;refine tk 2 [3,9] I.out ?_;refine tk 3 [9] I.out ?_;refine tk 4 [9] I.out ?_;refine tk 5 [7,8,9] I.out ?_;refine tk 6 [7,8,9] I.out ?_;refine tk 7 [8,9] I.out ?_;refine tk 8 [9] I.out ?_;clear I;refine aB (i:=9) k_ rfl (λK hK=>?_);go_simp;refine hK.out _ _ (λh=>absurd rfl h) ?_;clear hK K;refine co k_ ?_ _;go_wp2;go_roundw
   case rel=>exact⟨k+1,by go_num,o_,On⟩
   case measure=>simp[RowKit.intOf];omega
  obtain rfl:k=fn.pm.length:=(by omega);have Ve:(eU fn vs).take fn.pm.length=eU fn vs:=List.take_of_length_le (by unfold eU;rw[List.length_zip];have:=Yx.out;omega);have⟨W3,Js⟩:=q_ wr.drew;have Jp:Bl wr W3:=(by rw[Js];exact r_.drew);have Ju:=hJ.below HC.out Jp;have Jj:=Ju.st;rw[Ve]at Jj;have Yp:=Ux.out;have Xl:=Od.out;have Yo:=Jj.nn;have Yb:=Jj.now HC.out (s.n+F1) (s':= {s with l:=eU fn vs,n:=s.n+F1}) rfl ⟨by have:=Yo.1;have e:(0:Int)<=s.n:=this;omega,by show s.n+F1+1000000000*(s.u:Int)<=_;omega⟩;have⟨W4,Yk⟩:=q_ (W3.setCell ⟨C.P,10,none⟩ (V (s.n+F1)));rw[<-Yk]at Yb;have Je:=(Jj.box 10 _ rfl).1;have Yz:=(Jj.box 10 _ rfl).2;have x9:=(Jj.box 9 _ rfl).1;rw[Xg.out]at x9;have Zz:W3.cell? ⟨C.P,10,none⟩=some (V s.n)/\W3.cell? ⟨C.P,9,none⟩=some (.slice (some ⟨bF,oF,none⟩) C.fr.length fc)/\W3.cell? ⟨bF,oF+f,none⟩=some (V F1):=⟨Je,x9,Yr.out W3 _ _ _ _ _ _ _ Jj Vd⟩;have I:=ah Zz;have Xv:=ah Js;have Zu:=ah Yk;have Zp:=ah Yb;have Ot:0<=s.n:=Yo.1;have Or:IntKind.i64.wrap (s.n+F1)=s.n+F1:=(by simp[IntKind.wrap,IntKind.bits,IntKind.signed];omega);have Oy:(f:Int)<(C.fr.length:Int):=o_;have Ua:=ah hJ.tc;have Ym:Hid (∀c,J=.out c->c=2\/c=3):=λc h=>Xt.out.outc c h;clear hJ Js Jp Ju Jj Yb Yo x9 Zz Ve Yk;go_upto_region 8 with fail;refine cq 14 (λX=>X.cell? ⟨C.P,10,none⟩=some (V s.n)/\X.cell? ⟨C.P,9,none⟩=some (.slice (some ⟨bF,oF,none⟩) C.fr.length fc)/\X.cell? ⟨bF,oF+f,none⟩=some (V F1)) k_ ?_;rw[<-Xv.out];refine tk 0 [1,2,3,11,14] I.out ?_;refine tk 1 [2,3,11,14] I.out ?_;refine tk 2 [3,11,14] I.out ?_;refine tk 3 [11,14] I.out ?_;refine tk 4 [5,6,7,9,10,11,14] I.out ?_;refine tk 5 [6,7,9,10,11,14] I.out ?_;refine tk 6 [7,9,10,11,14] I.out ?_;refine tk 7 [9,10,11,14] I.out ?_;refine tk 8 [9,10,11,14] I.out ?_;refine tk 9 [10,11,14] I.out ?_;refine tk 10 [11,14] I.out ?_;refine tk 11 [14] I.out ?_;refine tk 12 [13,14] I.out ?_;refine tk 13 [14] I.out ?_;clear I;refine aB (i:=14) k_ rfl (λK hK=>?_);go_simp;refine hK.out _ _ (λh=>absurd rfl h) ?_;clear hK K Je Yz;refine co k_ ?_ _;rw[<-Zu.out];have⟨W5,Ys⟩:=q_ W4.drew;have Xm:Bl W4 W5:=(by rw[Ys];exact r_.drew);have Xs:=Zp.out.below HC.out Xm;have Je:=(Xs.box 10 _ rfl).1;have Vq:=(Xs.box 11 _ rfl).1;have Ue:=(Xs.box 11 _ rfl).2;have Vt:W5.cell? ⟨C.P,11,none⟩=some (V s.d)/\W5.cell? ⟨C.P,10,none⟩=some (V (s.n+F1)):=⟨Vq,Je⟩;have I:=ah Vt;have Yy:=ah Ys;clear Vt Ys Xm Xs Je;go_upto_region 9 with fail;refine cq 12 (λX=>X.cell? ⟨C.P,11,none⟩=some (V s.d)/\X.cell? ⟨C.P,10,none⟩=some (V (s.n+F1))) k_ ?_;rw[<-Yy.out];refine tk 0 [10,11,12] I.out ?_;refine tk 1 [2,3,4,9,12] I.out ?_;refine tk 2 [3,4,9,12] I.out ?_;refine tk 3 [4,9,12] I.out ?_;refine tk 4 [9,12] I.out ?_;refine tk 5 [6,7,8,9,12] I.out ?_;refine tk 6 [7,8,9,12] I.out ?_;refine tk 7 [8,9,12] I.out ?_;refine tk 8 [9,12] I.out ?_;refine tk 9 [12] I.out ?_;refine tk 10 [11,12] I.out ?_;refine tk 11 [12] I.out ?_;clear I;refine aB (i:=12) k_ rfl (λK hK=>?_);go_simp;generalize hmx:(if s.d<s.n+F1 then s.n+F1 else s.d)=mx;have Xk:max s.d (s.n+F1)=mx:=by rw[<-hmx];split <;> omega
  have Vn:=ah Xk;refine hK.out _ _ (λh=>absurd rfl h) ?_;clear hK K hmx Xk Vq Ue;refine co k_ ?_ _;have⟨W6,Xq⟩:=q_ (W5.setCell ⟨C.P,11,none⟩ (V mx));rw[<-Xq];have Xm:Bl W4 W5:=(by rw[Yy.out];exact r_.drew);have Jw:=(Zp.out.below HC.out Xm).deep HC.out (s':= {s with l:=eU fn vs,n:=s.n+F1,d:=max s.d (s.n+F1)}) mx (by rw[Vn.out]) (by have:=H0.out.nn.2.2;have:=Vn.out;omega);rw[<-Xq]at Jw;have Ya:aj (λk=>k=C.P\/k=q) W0 W6:=by have g1:aj (λk=>k=C.P\/k=q) W0 wr:=(Yv.out.mono λk hk=>.inl hk).trans (Ua.out.mono λk hk=>.inr hk);have g2:aj (λk=>k=C.P\/k=q) W0 W3:=(by rw[Xv.out];exact g1.drew);have g3:aj (λk=>k=C.P\/k=q) W0 W4:=(by rw[Zu.out];exact g2.setCell (p:=⟨C.P,10,none⟩) (.inl rfl) _);have g4:aj (λk=>k=C.P\/k=q) W0 W5:=(by rw[Yy.out];exact g3.drew);rw[Xq];exact g4.setCell (p:=⟨C.P,11,none⟩) (.inl rfl) _
  have Vc:aN W6 M [V 0,V 0]:=Uu.out.tcs Xa Ya (λe=>e.elim Vh Zo);have x3:=(Jw.box 3 _ rfl).1;have xb:W6.cell? ⟨C.bB,f,none⟩=some (.slice ba bL.length bc):=(c_ (a:=⟨C.bB,f,none⟩) (Jw.tc.block C.bB (HC.out.ne C.bB (.inr (.inr rfl))).1 (λe=>e.elim (HC.out.ne C.bB (.inr (.inr rfl))).2.1 (HC.out.ne C.bB (.inr (.inr rfl))).2.2))).trans Ut;have Xw:=(Xt.out.inv Jw.ok trivial).2.2;have Xf:=ah (Zw.out bL _ J z2 Xt.out (by show wC _ ((eU fn vs).map Prod.fst) _;rw[Vg.out];exact Vx) (by show qO _ ((eU fn vs).map Prod.fst);rw[Vg.out];exact Zt) W6 q vI vO (.slice ba bL.length bc) Jw Us);have Jx:Hid (∀(w7 W8:World) (Xu Xi:Value) (en vv:Int),IS C w7 (some q) Xu Xi z2->aj (dT C (some q) vO) W6 w7->(∀k,Xi.ownBlock=some k->vO.ownBlock=some k\/W6.heap.size<=k)->W8=w7.alloc (.cells #[V en,V vv] 65)->_):=λw7 W8 Xu Xi en vv g1 g2 g3 g4=>Ip (en:=en) (vv:=vv) (F1:=F1) HC.out H0.out Xb.out Vo.out HM.out Xa Ya Vc g1 g2 g3 Xw.2.1 Xw.2.2.1 g4;have Ov:(f:Int)<(C.t.fc.length:Int):=o_
  have Uv:=ah Xw.2.1;clear Xq Xm Jw Ya Vc Xw Zw Xt;go_wp2_with fail;refine Xf.out.mono ?_;rintro e w7 ⟨Xu,Xi,rfl,Zx,Vp,Z_⟩;clear x3 xb;have⟨en,Za⟩:=q_ (cH J);have⟨vv,X_⟩:=q_ (dg J);rw[<-Za,<-X_];have⟨W8,Yw⟩:=q_ (w7.alloc (.cells #[V en,V vv] 65));have⟨B,hB⟩:=q_ w7.heap.size;have⟨Ul,Ub,Zl,Jq⟩:=Jx.out w7 W8 Xu Xi en vv Zx Vp Z_ Yw;rw[<-hB]at Ul Ub;simp only[<-hB]at Jq;have⟨W9,Yt⟩:=q_ W8.drew;have⟨Vz,Jr⟩:=q_ ((W9.setCell ⟨C.P,10,none⟩ (V s.n)).setCell ⟨C.P,5,none⟩ (.map vV));have Yj:Bl W8 W9:=(by rw[Yt];exact r_.drew);have⟨Yf,Zy,⟨Jl,Xh,Jo⟩,Jt,Xo,Xj⟩:=Jq W9 Vz Yj Jr;rw[<-Uf.out]at Jl Jt;have Jn:=Zl.below HC.out Yj;have Je:=(Jn.box 10 _ rfl).1;have Yz:=(Jn.box 10 _ rfl).2;have x5:=(Jn.box 5 _ rfl).1;have f5:=(Jn.box 5 _ rfl).2;have x9:=(Jn.box 9 _ rfl).1;rw[Xg.out]at x9;rw[Uv.out]at Je;have I:Hid (W9.cell? ⟨C.P,10,none⟩=some (V (s.n+F1))/\W9.cell? ⟨C.P,9,none⟩=some (.slice (some ⟨bF,oF,none⟩) C.fr.length fc)/\W9.cell? ⟨bF,oF+f,none⟩=some (V F1)):=⟨Je,x9,Yr.out W9 _ _ _ _ _ _ _ Jn Vd⟩;have Oc:s.n+F1-F1=s.n:=o_;have Oi:IntKind.i64.wrap s.n=s.n:=(by simp[IntKind.wrap,IntKind.bits,IntKind.signed];omega);have Ye:Hid (cH J.back=en->_):=λg=>dS HC.out HM.out H0.out Xb.out Xa Jl Xh Yf r_ Jo J.back (a:=en) (b:=vv) g ((wh J).trans X_.symm);have Zd:Hid (cH J.back=0->_):=λg=>dS HC.out HM.out H0.out Xb.out Xa Jt Xo Yf r_ Xj J.back (a:=0) (b:=vv) g ((wh J).trans X_.symm);have Ui:=ah Yw;have Vy:=ah hB;have Vw:=ah Yt;have Yu:=ah Jr;have Yg:=ah Zy;have Jf:=ah Jo;have Xz:=ah Za;have Jy:∀c,J=.out c->c=2\/c=3:=Ym.out;have Oe:=ah Jy;clear Zx Vp Z_ Yw hB Jq Yt Jr Yj Yf Zy Jl Xh Jo Jt Xo Xj Zl Jn x9 Za X_ Jy Jx Xf;go_upto_region 11 with fail;rw[<-Ui.out,<-Vy.out];refine cq 14 (λX=>X.cell? ⟨C.P,10,none⟩=some (V (s.n+F1))/\X.cell? ⟨C.P,9,none⟩=some (.slice (some ⟨bF,oF,none⟩) C.fr.length fc)/\X.cell? ⟨bF,oF+f,none⟩=some (V F1)) k_ ?_;rw[<-Vw.out];refine tk 0 [1,2,3,11,14] I.out ?_;refine tk 1 [2,3,11,14] I.out ?_;refine tk 2 [3,11,14] I.out ?_;refine tk 3 [11,14] I.out ?_;refine tk 4 [5,6,7,9,10,11,14] I.out ?_;refine tk 5 [6,7,9,10,11,14] I.out ?_;refine tk 6 [7,9,10,11,14] I.out ?_;refine tk 7 [9,10,11,14] I.out ?_;refine tk 8 [9,10,11,14] I.out ?_;refine tk 9 [10,11,14] I.out ?_;refine tk 10 [11,14] I.out ?_;refine tk 11 [14] I.out ?_;refine tk 12 [13,14] I.out ?_;refine tk 13 [14] I.out ?_;clear I;refine aB (i:=14) k_ rfl (λK hK=>?_);go_simp;refine hK.out _ _ (λh=>absurd rfl h) ?_;clear hK K Je Yz;refine co k_ ?_ _;go_upto_region 13 with fail;rw[<-Yu.out];clear x5 f5;have z0:=(Yg.out 0 _ rfl).1;have g0:=(Yg.out 0 _ rfl).2;have z1:=(Yg.out 1 _ rfl).1;by_cases he:en=2
  ·have Xn:cH J.back=0:=by rcases Eg J (by rw[<-Xz.out];exact he)with g|⟨c,g⟩;exact g;have h1:=Xz.out;rw[g]at h1;have h2:en=c+1:=h1;rcases Oe.out c g with g2|g2 <;> omega
   have HF:=ah (Zd.out Xn);have⟨u0,v0⟩:=Jf.out 0 _ rfl;have⟨u1,v1⟩:=Jf.out 1 _ rfl;clear Ye Zd Xn;subst he;go_wp2_with fail;have⟨t0,t1,hQ⟩:=HF.out;exact bodyPost_ret (v:=.agg #[V 0,V vv]) (by simp[results,results29,go_sem,t0,t1]) rfl hQ
  have Oo:(en == 2)=false:=(by simpa using he);have Xn:cH J.back=en:=(by rw[F6 J (by rw[<-Xz.out];exact he),Xz]);have HF:=ah (Ye.out Xn);have⟨u0,v0⟩:=Jf.out 0 _ rfl;have⟨u1,v1⟩:=Jf.out 1 _ rfl;clear Ye Zd Xn he;go_wp2_with fail;have⟨t0,t1,hQ⟩:=HF.out;exact bodyPost_ret (v:=.agg #[V en,V vv]) (by simp[results,results29,go_sem,t0,t1]) rfl hQ
end
def Iq{t:Tr}{fr:List Int}{k:Tk}{s:ES}{r:ER}{s':ES}(h:Ev t fr 0 k s r s'):False:=by cases h using Ev_i
theorem Ei{C:IC}(hC:C.Ok):∀n,Hz C n/\JL C n/\Jv C n
 | 0=>by refine⟨?_,?_,?_⟩;intro e s r s' hE;exact(Iq hE).elim;intro f vs s r s' hE;exact(Iq hE).elim;intro L z r z' hE;exact(Iq hE).elim
 | n+1=>by have⟨h1,h2,h3⟩:=Ei hC n;exact⟨DZ C hC n h1 h2,Eh hC h3,Ef hC (Ea hC h1 h3)⟩
section
variable{w W1 wn wr w':AT}{t:Tr}{vg vf vI vFr:BY}{F:Int}{B0 bm n P bN bM k:Nat}{D:DataW Unit}{gb:List Nat}
def Jy(vg vf:BY)(bN:Nat)(vB vM:BY)(vI:BY)(F:Int)(vFr:BY):List BY:=[vg,vf,.map (some bN),vB,vM,.map none,vI,nV,V F,vFr,V 0,V 0]
structure Jz (w:AT) (t:Tr) (vg vf vI:BY) (F:Int) (vFr:BY) (B0 P bN:Nat) (W:AT):Prop where
 box:aN W P (Jy vg vf bN nV (.map none) vI F vFr)
 tre:aN W B0 [vg,vf]
 num:∃n D,W.ownsMap prog 9 (plainElem (H:=Unit) prog 2) bN n D/\dj D t.fc
 bel:Bl w W
 ne:B0=w.heap.size/\B0<P/\B0<bN/\bN≠P
def Jq(Jc:B0=w.heap.size)(Jg:W1.heap.size=w.heap.size+1)(Ja:Bl w W1)(Je:aN W1 B0 [vg,vf])(I:Bl W1 wn)(Jb:wn.ownsMap prog 9 (plainElem (H:=Unit) prog 2) bm n D)(Jh:W1.heap.size<=bm)(Jd:dj D t.fc):
  Jz w t vg vf vI F vFr B0 wn.heap.size bm (wn.alloc (.cells #[vg,vf,.map (some bm),nV,.map none,.map none,vI,nV,V F,vFr,V 0,V 0] 71)):=by
 have h:Bl wn (wn.alloc (.cells #[vg,vf,.map (some bm),nV,.map none,.map none,vI,nV,V F,vFr,V 0,V 0] 71)):=ao _ _;have s1:=I.size;have Jf:=Jb.lt;exact⟨aI wn #[vg,vf,.map (some bm),nV,.map none,.map none,vI,nV,V F,vFr,V 0,V 0] 71 i_,(Je.below I).below h,⟨n,D,bX Jb (h.tcs (S:=λ_=>False)) (λe=>e),Jd⟩,(Ja.trans (I.mono Ja.size)).trans (h.mono o_),Jc,o_,o_,o_⟩
theorem Jr(hP:P=W1.heap.size)(Jd:B0=w.heap.size)(Jg:W1.heap.size=w.heap.size+1)(Ja:Bl w W1)(Jf:aN W1 B0 [vg,vf])(I:Bl W1 wn){Z:List BY}(hq:aN wn P Z)(hZ:Z.length=12)(Jc:wn.ownsMap prog 9 (plainElem (H:=Unit) prog 2) bm n D)(Jh:W1.heap.size+1<=bm)(Je:dj D t.fc):
  Jz w t vg vf vI F vFr B0 P bm ((((((((((((wn.setCell ⟨P,0,none⟩ vg).setCell ⟨P,1,none⟩ vf).setCell ⟨P,2,none⟩ (.map (some bm))).setCell ⟨P,3,none⟩ nV).setCell ⟨P,4,none⟩ (.map none)).setCell ⟨P,5,none⟩ (.map none)).setCell ⟨P,6,none⟩ vI).setCell ⟨P,7,none⟩ nV).setCell ⟨P,8,none⟩ (V F)).setCell ⟨P,9,none⟩ vFr).setCell ⟨P,10,none⟩ (V 0)).setCell ⟨P,11,none⟩ (V 0)):=by
 have h:aj (λk=>k=P) wn ((((((((((((wn.setCell ⟨P,0,none⟩ vg).setCell ⟨P,1,none⟩ vf).setCell ⟨P,2,none⟩ (.map (some bm))).setCell ⟨P,3,none⟩ nV).setCell ⟨P,4,none⟩ (.map none)).setCell ⟨P,5,none⟩ (.map none)).setCell ⟨P,6,none⟩ vI).setCell ⟨P,7,none⟩ nV).setCell ⟨P,8,none⟩ (V F)).setCell ⟨P,9,none⟩ vFr).setCell ⟨P,10,none⟩ (V 0)).setCell ⟨P,11,none⟩ (V 0)):=(((((((((((((aj.refl (λk=>k=P) wn).setCell (p:=⟨P,0,none⟩) rfl vg).setCell (p:=⟨P,1,none⟩) rfl vf).setCell (p:=⟨P,2,none⟩) rfl (.map (some bm))).setCell (p:=⟨P,3,none⟩) rfl nV).setCell (p:=⟨P,4,none⟩) rfl (.map none)).setCell (p:=⟨P,5,none⟩) rfl (.map none)).setCell (p:=⟨P,6,none⟩) rfl vI).setCell (p:=⟨P,7,none⟩) rfl nV).setCell (p:=⟨P,8,none⟩) rfl (V F)).setCell (p:=⟨P,9,none⟩) rfl vFr).setCell (p:=⟨P,10,none⟩) rfl (V 0)).setCell (p:=⟨P,11,none⟩) rfl (V 0));have J:=((((((((((((hq.set 0 vg).set 1 vf).set 2 (.map (some bm))).set 3 nV).set 4 (.map none)).set 5 (.map none)).set 6 vI).set 7 nV).set 8 (V F)).set 9 vFr).set 10 (V 0)).set 11 (V 0));match Z,hZ with
 | [z0,z1,z2,z3,z4,z5,z6,z7,z8,z9,z10,z11],_=>have s1:=I.size;have Jb:B0<wn.heap.size:=o_;exact⟨J,(Jf.below I).tcs Jb h (λe=>by have U:B0=P:=e;omega),⟨n,D,bX Jc h (λe=>by have U:bm=P:=e;omega),Je⟩,h.below (Ja.trans (I.mono Ja.size)) o_ (λk hk=>by have e:k=P:=hk;omega),Jd,o_,o_,o_⟩
structure tH (w:AT) (t:Tr) (vg vf vI:BY) (F:Int) (vFr:BY) (B0 P bN bM k:Nat) (gb:List Nat) (W:AT):Prop where
 box:aN W P (Jy vg vf bN nV (.map (some bM)) vI F vFr)
 tre:aN W B0 [vg,vf]
 num:∃n D,W.ownsMap prog 9 (plainElem (H:=Unit) prog 2) bN n D/\dj D t.fc
 glb:∃D,W.ownsMap prog 9 gD bM k D/\iz D (t.gl.take k) gb
 gbl:gb.length=k
 gw:∀j (hj:j<gb.length) (hk:j<t.gl.length),aN W gb[j] (IZ (ju t.gl[j]))
 gr:∀b∈gb,bM<b/\b<W.heap.size
 nd:gb.Nodup
 bel:Bl w W
 ne:B0=w.heap.size/\B0<P/\B0<bN/\bN≠P/\P<bM/\bN<bM/\bM<W.heap.size
def Js{I:AT}(h:Jz w t vg vf vI F vFr B0 P bN I):tH w t vg vf vI F vFr B0 P bN I.heap.size 0 [] ((I.setCell ⟨P,4,none⟩ (.map (some I.heap.size))).alloc (.map #[] 0)):=by
 have⟨n,D,Z,h2⟩:=h.num;have⟨e1,e2,e3,e4⟩:=h.ne;have Jb:=Z.lt;have hP:=b_ (h.box 0 _ rfl).1;have Ja:P<I.heap.size:=hP;have hB:B0<I.heap.size:=o_;have J:(I.setCell ⟨P,4,none⟩ (.map (some I.heap.size))).alloc (.map #[] 0)=(I.alloc (.map #[] 0)).setCell ⟨P,4,none⟩ (.map (some I.heap.size)):=by rw[setCell_alloc_past _ _ _ _ Ja]
 have ha:Bl I (I.alloc (.map #[] 0)):=ao _ _;have U:aj (λk=>k=P) I ((I.setCell ⟨P,4,none⟩ (.map (some I.heap.size))).alloc (.map #[] 0)):=by rw[J];exact(ha.tcs (S:=λk=>k=P)).setCell (p:=⟨P,4,none⟩) rfl _
 have hm:((I.setCell ⟨P,4,none⟩ (.map (some I.heap.size))).alloc (.map #[] 0)).ownsMap prog 9 gD I.heap.size 0 (.map []):=by rw[J];exact bX (ownsMap_made I prog 9 _) ((aj.refl (λk=>k=P) _).setCell (p:=⟨P,4,none⟩) rfl _) (λe=>by have e':I.heap.size=P:=e;omega)
 have hs:((I.setCell ⟨P,4,none⟩ (.map (some I.heap.size))).alloc (.map #[] 0)).heap.size=I.heap.size+1:=by rw[J];simp
 refine⟨?_,h.tre.tcs hB U (λe=>by have e':B0=P:=e;omega),⟨n,D,bX Z U e4,h2⟩,⟨_,hm,IN iz.nil⟩,rfl,λj hj=>by simp at hj,λb hb=>by simp at hb,nodup_nil,U.below h.bel h.bel.size (λk hk=>by have e:k=P:=hk;omega),e1,e2,e3,e4,Ja,Jb,o_⟩;rw[J];exact(h.box.below ha).set 4 _
def tH.past{S:Ft}(h:tH w t vg vf vI F vFr B0 P bN bM k gb wr)(I:aj S wr w')(Z:∀b,S b->wr.heap.size<=b):tH w t vg vf vI F vFr B0 P bN bM k gb w':=by
 have⟨n,D,h1,h2⟩:=h.num;have⟨D2,h3,h4⟩:=h.glb;have⟨e1,e2,e3,e4,e5,e6,e7⟩:=h.ne;have J:∀b,b<wr.heap.size->¬S b:=λb hb U=>Ka (Z b U)
 have U:=I.size;exact⟨h.box.tcs o_ I (J _ o_),h.tre.tcs o_ I (J _ o_),⟨n,D,bX h1 I (J _ o_),h2⟩,⟨D2,bX h3 I (J _ e7),h4⟩,h.gbl,λj hj hk=>(h.gw j hj hk).tcs (h.gr _ (g_ hj)).2 I (J _ (h.gr _ (g_ hj)).2),λb hb=>⟨(h.gr b hb).1,by have:=(h.gr b hb).2;omega⟩,h.nd,I.below h.bel h.bel.size (λb hb=>Ia (Z b hb) h.bel.size),e1,e2,e3,e4,e5,e6,o_⟩
def tH.below(h:tH w t vg vf vI F vFr B0 P bN bM k gb wr)(hb:Bl wr w'):tH w t vg vf vI F vFr B0 P bN bM k gb w':=
 h.past (hb.tcs (S:=λ_=>False)) (λb hb=>hb.elim)
def tH.more{I w5:AT}(h:tH w t vg vf vI F vFr B0 P bN bM k gb I)(Jb:(t.gl.map (·.nm)).Nodup)(Z:k<t.gl.length)(hz:ju t.gl[k]<=4000){D:DataW BY}(hD:iz D (t.gl.take k) gb)
  (ho:w5.ownsMap prog 9 gD bM (k+1) (D.put (kS t.gl[k].nm) (.held (rV I.heap.size (ju t.gl[k]) (ju t.gl[k]))))) (hg:(I.alloc (.cells (Array.replicate (ju t.gl[k]) (V 0)) 2)).grownBy w5 (some bM)):tH w t vg vf vI F vFr B0 P bN bM (k+1) (gb++[I.heap.size]) w5:=by
 have ha:Bl I (I.alloc (.cells (Array.replicate (ju t.gl[k]) (V 0)) 2)):=ao _ _;have Jc:(I.alloc (.cells (Array.replicate (ju t.gl[k]) (V 0)) 2)).heap.size=I.heap.size+1:=i_;have Ja:aN (I.alloc (.cells (Array.replicate (ju t.gl[k]) (V 0)) 2)) I.heap.size (IZ (ju t.gl[k])):=by
  have:=yV I (Array.replicate (ju t.gl[k]) (V 0)) 2 H6
  simpa[IZ]using this
 have h4:=h.below ha;have J:aj (λb=>b=bM) (I.alloc (.cells (Array.replicate (ju t.gl[k]) (V 0)) 2)) w5:=aj.of_grown hg (λk Z=>by cases Z;rfl);have hs:=J.size;have⟨n,D1,h1,h2⟩:=h4.num;have⟨e1,e2,e3,e4,e5,e6,e7⟩:=h.ne;have hl:gb.length=(t.gl.take k).length:=by rw[h.gbl,length_take];omega
 refine⟨h4.box.tcs o_ J (λe=>by have U:P=bM:=e;omega),h4.tre.tcs o_ J (λe=>by have U:B0=bM:=e;omega),⟨n,D1,bX h1 J (λe=>by have U:bN=bM:=e;omega),h2⟩,⟨_,ho,?_⟩,by simp[h.gbl],λj hj hjk=>?_,λb hb=>?_,?_,J.below h4.bel h4.bel.size (λb hb=>by have e:b=bM:=hb;omega),e1,e2,e3,e4,e5,e6,o_⟩;rw[take_succ_eq_append_getElem Z];exact hD.put hl (DM Jb Z);by_cases hjb:j<gb.length;have e:(gb++[I.heap.size])[j]=gb[j]:=getElem_append_left hjb;rw[e];have hr:=h.gr _ (g_ hjb);exact(h4.gw j hjb hjk).tcs o_ J (λe=>by have U:gb[j]=bM:=e;omega);have ej:j=k:=(by rw[l_a,length_singleton]at hj;have:=h.gbl;omega);subst ej;have e:(gb++[I.heap.size])[j]=I.heap.size:=by rw[getElem_append_right (Ka h.gbl)];simp
 rw[e];exact Ja.tcs o_ J (λe=>by have U:I.heap.size=bM:=e;omega);rcases J5.1 hb with hb|hb
 have:=h.gr b hb
 exact⟨this.1,o_⟩;simp only[J7]at hb;subst hb;exact⟨e7,o_⟩;rw[nodup_append];refine⟨h.nd,i_,λa ha b hb e=>?_⟩;simp only[J7]at hb;subst hb;subst e;have:=(h.gr _ ha).2;omega
end
section
variable{W Wm:AT}{t:Tr}{vg vf vI vFr vB:BY}{F:Int}{P bN bM k:Nat}{S:Ft}
def Ej:(prog.info? 85).map (λi=>(i.zero,i.size,i.bytes))=some (some nV,1,24):=by kernel_rfl
def F7{B n:Nat}{I:BY}{U:List BY}(h:W.ownsRow B 85 1 I n U)(z:BY)(hz:z.oneCell'=true)(hB:B<=W.heap.size)(hn:n<=1000000):
  ∃va vc w3,(Builtin.append_ #[68,68] 68 #[I,rV W.heap.size 1 1]).run prog (W.alloc (.cells #[z] 85))=.ok (.slice va (n+1) vc) w3/\w3.ownsRow B 85 1 (.slice va (n+1) vc) (n+1) (U++[z])/\aj (λk=>I.ownBlock=some k) W w3/\∀k,(Value.slice va (n+1) vc).ownBlock=some k->I.ownBlock=some k\/W.heap.size<k:=by
 have⟨Z,hi,Jd,Je,Jc⟩:=info_parts Ej;have Ja:Bl W (W.alloc (.cells #[z] 85)):=ao _ _;have h':=ownB h Ja;have Jb:(W.alloc (.cells #[z] 85)).ownsRow W.heap.size 85 1 (rV W.heap.size 1 1) 1 [z]:=ownsRow_lit W #[z] 1 n_ d_ rfl;have⟨v',w',r1,J,r3,r4⟩:=cU (P:=prog) (w:=W.alloc (.cells #[z] 85)) B 68 68 85 Z _ 1 24 underlying68 hi Jd Je Jc rfl d_ I _ _ h' (some ⟨W.heap.size,0,none⟩) 1 1 [z] (λe=>by cases e) rfl (λad had k u hu=>by cases had;exact ownsRow.cells Jb (g:=W.heap.size) rfl k u hu) (λu hu=>by simp at hu;subst hu;exact hz) o_ d_ (Ka Ja.size);obtain⟨va,vc,rfl,-⟩:=jf J;refine⟨va,vc,w',r1,J,(Ja.tcs (S:=λk=>I.ownBlock=some k)).next (T:=λk=>I.ownBlock=some k) (aj.of_grown r3 (λk hk=>hk)) (λk hk=>.inl hk),λk hk=>(r4 k hk).imp id λh1=>?_⟩;rw[J9]at h1;omega
structure Ek (t:Tr) (vg vf vI:BY) (F:Int) (vFr:BY) (P bN bM:Nat) (Wm:AT) (k:Nat) (vB:BY) (S:Ft) (W:AT):Prop where
 box:aN W P (Jy vg vf bN vB (.map (some bM)) vI F vFr)
 tc:aj (λb=>b=P) Wm W
 row:∃xs:List BY,xs.length=k/\W.ownsRow Wm.heap.size 85 1 vB k xs/\∀f,f<k->∃a cap L,xs[f]? =some (.slice a L.length cap)/\kr W S (.slice a L.length cap) L/\(t.fc.getD f ⟨⟨#[]⟩,[],[]⟩).bd=aG L
 sS:∀B,S B->Wm.heap.size<=B/\B<W.heap.size/\vB.ownBlock≠some B
 pm:P<Wm.heap.size
def Jt(h:aN Wm P (Jy vg vf bN nV (.map (some bM)) vI F vFr)):Ek t vg vf vI F vFr P bN bM Wm 0 nV (λ_=>False) Wm:=
 ⟨h,aj.refl _ _,⟨[],rfl,ownsRow_nil _ _ _ _,λf hf=>absurd hf o_⟩,λB hB=>hB.elim,b_ (h 0 _ rfl).1⟩
def Ek.below{J:AT}(h:Ek t vg vf vI F vFr P bN bM Wm k vB S W)(I:Bl W J):Ek t vg vf vI F vFr P bN bM Wm k vB S J:=by have⟨xs,h1,h2,h3⟩:=h.row;refine⟨h.box.below I,h.tc.of_below I,⟨xs,h1,ownB h2 I,λf hf=>?_⟩,λB hB=>⟨(h.sS B hB).1,by have:=(h.sS B hB).2.1;have:=I.size;omega,(h.sS B hB).2.2⟩,h.pm⟩;have⟨a,Ja,L,Z,U,g3⟩:=h3 f hf;exact⟨a,Ja,L,Z,U.bel (λB hB=>(h.sS B hB).2.1) I,g3⟩
def Ek.more{N:Nat}{S':Ft}{w5:AT}{x:BY}(h:Ek t vg vf vI F vFr P bN bM Wm k vB S w5)(hx:Bk w5 S' x (t.fc.getD k ⟨⟨#[]⟩,[],[]⟩).bd)(U:∀B,S' B->N<=B/\B<w5.heap.size)(hN:Wm.heap.size<=N)(Je:∀B,vB.ownBlock=some B->B<N)(hk:k<=1000):
  ∃xa xn xc va vc w6,x=.slice xa xn xc/\(Builtin.append_ #[68,68] 68 #[vB,rV w5.heap.size 1 1]).run prog (w5.alloc (.cells #[x] 85))=.ok (.slice va (k+1) vc) w6/\(DO w6 P 3 vB/\D4 w6 P 3)/\aj (λb=>vB.ownBlock=some b) w5 w6/\Ek t vg vf vI F vFr P bN bM Wm (k+1) (.slice va (k+1) vc) (λB=>S B\/S' B) (w6.setCell ⟨P,3,none⟩ (.slice va (k+1) vc)):=by
 have⟨L,hL,Ja⟩:=hx.toL;obtain⟨xa,xc,rfl,-⟩:=hL.args;have⟨xs,h1,h2,h3⟩:=h.row;have sM:=h.tc.size;have⟨va,vc,w6,r1,r2,Z,r4⟩:=F7 h2 (.slice xa L.length xc) rfl sM o_;have Jd:=λb hb=>ownsRow.lt h2 b hb;have Jh:=h.pm;have Ji:¬vB.ownBlock=some P:=λe=>by have:=(Jd _ e).1;omega
 have Jc:=h.box.tcs o_ Z Ji;have t2:aj (λb=>b=P) w6 (w6.setCell ⟨P,3,none⟩ (.slice va (k+1) vc)):=(aj.refl (λb=>b=P) w6).setCell (p:=⟨P,3,none⟩) rfl _;have I:aj (λb=>vB.ownBlock=some b\/b=P) w5 (w6.setCell ⟨P,3,none⟩ (.slice va (k+1) vc)):=(Z.mono (λb hb=>.inl hb)).next t2 (λb hb=>.inl (.inr hb));have s4:=I.size;have Jf:∀B,S B->(w6.setCell ⟨P,3,none⟩ (.slice va (k+1) vc)).heap[B]? =w5.heap[B]? := λB hB=>I.block B (h.sS B hB).2.1 (λe=>e.elim (h.sS B hB).2.2 (λe=>by have:=(h.sS B hB).1;omega));have Jb:∀B,S' B->(w6.setCell ⟨P,3,none⟩ (.slice va (k+1) vc)).heap[B]? =w5.heap[B]? := λB hB=>I.block B (U B hB).2 (λe=>e.elim (λe=>by have:=Je B e;have:=(U B hB).1;omega) (λe=>by have:=(U B hB).1;omega));refine⟨xa,L.length,xc,va,vc,w6,rfl,r1,Jc 3 _ rfl,Z,Jc.set 3 _,?_,⟨xs++[.slice xa L.length xc],by simp[h1],fP r2 t2 (λb hb e=>by have e':b=P:=e;have:=(ownsRow.lt r2 b hb).1;omega),λf hf=>?_⟩,λB hB=>?_,Jh⟩
 exact h.tc.next I (λb hb=>hb.elim (λe=>.inr (Jd b e).1) (λe=>.inl e));by_cases hfk:f<k
 have⟨a,Jg,L2,J,g2,g3⟩:=h3 f hfk;exact⟨a,Jg,L2,by rw[getElem?_append_left o_];exact J,g2.keep (λB hB=>.inl hB) Jf,g3⟩
 obtain rfl:f=k:=(by omega);exact⟨xa,xc,L,by rw[getElem?_append_right o_,h1];simp,hL.keep (λB hB=>.inr hB) Jb,Ja⟩;rcases hB with hB|hB
 have⟨J,g2,g3⟩:=h.sS B hB;exact⟨J,o_,λe=>(r4 B e).elim g3 (λe=>by omega)⟩
 have⟨J,g2⟩:=U B hB;exact⟨o_,o_,λe=>(r4 B e).elim (λe=>Ka (Je B e)) (λe=>by omega)⟩
end
def wj(h:List Fu)(k:Nat)(I:k<h.length):(h.getD k ⟨⟨#[]⟩,[],[]⟩).bd=h[k].bd:=by simp[List.getD,I]
def tH.moreN{w J W4 w5:AT}{t:Tr}{vg vf Z Ja:BY}{F:Int}{B0 P bN I k N:Nat}{U:List Nat}(h:tH w t vg vf Z F Ja B0 P bN I k U J)(Jc:(t.gl.map (·.nm)).Nodup)(hk:k<t.gl.length)(hN:N=ju t.gl[k])(hz:N<=4000)(Jb:W4=J.alloc (.cells (Array.replicate N (.int .i64 0)) 2)){D:DataW BY}(hD:iz D (t.gl.take k) U)
  (ho:w5.ownsMap prog 9 gD I (k+1) (D.put (kS t.gl[k].nm) (.held (rV J.heap.size N N)))) (hg:W4.grownBy w5 (some I)):tH w t vg vf Z F Ja B0 P bN I (k+1) (U++[J.heap.size]) w5:=by
 subst hN;subst Jb;exact h.more Jc hk hz hD ho hg
theorem El(t:Tr)(vg vf vI Xw:Value)(F:Int)(w:World)(hl:t.fc.length<=1000)(Vy:t.gl.length<=1000)(hw:wJ t.fc)(hf:bj w vf t.fc)(hg:cD w vg t.gl)(hT:gF w)(Zo:∀f∈t.fc,bw f.bd=true/\(∀s∈f.bd,stmtB s=true/\s.e.length<=2000/\s.f.length<=2000)/\f.bd.length<=1000)(Zp:∀g∈t.gl,0<=g.size/\g.size<=4000)(Zr:∀g∈t.gl,g.nm.size<=maxLen)(Zq:(t.gl.map (·.nm)).Nodup)(hI:∃ai ni ci,vI=.slice ai ni ci)(hF:∃ai ni ci,Xw=.slice ai ni ci):
  Calls prog 28 #[.agg #[vg,vf],vI,V F,Xw] w λe w'=>∃B0 P bN bM gb Wm vB S,e=rW (pV P)/\tH w t vg vf vI F Xw B0 P bN bM t.gl.length gb Wm/\Ek t vg vf vI F Xw P bN bM Wm t.fc.length vB S w':=by
 obtain⟨ai,ni,ci,rfl⟩:=hI;obtain⟨aF,nF,cF,rfl⟩:=hF;have Yg:=ah hf;have Jn:=ah hw;obtain⟨U,Z,rfl,-,-,Xa⟩:=hf;have Zt:=ah Xa;have Xf:=ah hT;have Vi:=ah Zo;clear Xa hT Zo;obtain⟨ag,cg,rfl,-,-,Xc⟩:=hg;have Vg:=ah Xc;have Va:=ah Zp;have Vn:=ah Zr;have Vk:=ah Zq;clear Xc Zp Zr Zq;have⟨W1,Xg⟩:=q_ (w.alloc (.cells #[.slice ag t.gl.length cg,.slice U t.fc.length Z] 26));have Jx:Bl w W1:=by rw[Xg];exact r_.alloc n_ _
 have Xi:aN W1 w.heap.size [.slice ag t.gl.length cg,.slice U t.fc.length Z]:=by rw[Xg];exact aI w _ _ (by show 2<=1000;omega)
 have Zj:W1.heap.size=w.heap.size+1:=by rw[Xg,World.size_alloc]
 have⟨B0,Yk⟩:=q_ w.heap.size;rw[<-Yk]at Xi;have Zs:B0<W1.heap.size:=o_;have HY:Hid (∀W,Bl W1 W->W.cell? ⟨B0,0,none⟩=some (.slice ag t.gl.length cg)/\W.cell? ⟨B0,1,none⟩=some (.slice U t.fc.length Z)):=λW hW=>⟨((Xi.below hW) 0 _ rfl).1,((Xi.below hW) 1 _ rfl).1⟩;have Jm:Hid (∀W,Bl W1 W->Calls prog 41 #[.agg #[.slice ag t.gl.length cg,.slice U t.fc.length Z]] W λe w'=>∃b D,e=rW (.map (some b))/\W.heap.size<=b/\w'.ownsMap prog 9 (plainElem (H:=Unit) prog 2) b t.fc.length D/\dj D t.fc/\Bl W w'):=λW hW=>j6 t.fc _ _ W o_ Jn.out ((Yg.out.below Jx).below hW);have Jk:Hid (Bl W1 W1.drew):=r_.drew;have Jy:Hid (∀o,Bl W1 (W1.alloc o).drew):=λo=>(r_.alloc n_ o).drew;have Zf:=ah λwn (h:Below (W1.alloc (.cells #[nV,nV,.map none,nV,.map none,.map none,nV,nV,V 0,nV,V 0,V 0] 71)).drew.heap.size (W1.alloc (.cells #[nV,nV,.map none,nV,.map none,.map none,nV,nV,V 0,nV,V 0,V 0] 71)).drew wn)=>((aI W1 #[nV,nV,.map none,nV,.map none,.map none,nV,nV,V 0,nV,V 0,V 0] 71 (by show 12<=1000;omega)).below (r_.drew)).below h;have Vj:=ah Xg;have Ye:=ah Yk;have Yw:=ah Jx;have Yc:=ah Xi;have Zl:=ah Zj;clear hw Xg Yk Jx Xi Zj;go_in;go_upto_region 1 with fail;rw[<-Vj.out,<-Ye.out];go_cut [9]from 21 to 55 (λp W=>∃P bN,p=pV P/\Jz w t (.slice ag t.gl.length cg) (.slice U t.fc.length Z) (.slice ai ni ci) F (.slice aF nF cF) B0 P bN W)
 case first=>
  have y0:=(HY.out _ Jk).1;have y1:=(HY.out _ Jk).2;have k2:∀o,(W1.alloc o).drew.cell? ⟨B0,0,none⟩=some (.slice ag t.gl.length cg)/\(W1.alloc o).drew.cell? ⟨B0,1,none⟩=some (.slice U t.fc.length Z):=λo=>HY.out _ (Jy.out o);have Vs:¬B0=W1.heap.size:=o_
  have Vo:¬W1.heap.size=B0:=o_
  go_region_held (λW=>W.cell? ⟨B0,0,none⟩=some (.slice ag t.gl.length cg)/\W.cell? ⟨B0,1,none⟩=some (.slice U t.fc.length Z)) (first | (with_reducible exact k2 _) | (with_reducible exact qa _) | go_keep)
   (first
   | ((with_reducible refine Calls.mono (Jm.out _ Jk.out) ?_);intro x wn hx;obtain⟨bm,D,Ya,Yn,Xx,X_,Jg⟩:=hx;subst Ya;have q:=HY.out wn (Jk.out.trans (Jg.mono i_));have qa:∀o,(wn.alloc o).cell? ⟨B0,0,none⟩=some (.slice ag t.gl.length cg)/\(wn.alloc o).cell? ⟨B0,1,none⟩=some (.slice U t.fc.length Z):=λo=>HY.out (wn.alloc o) ((Jk.out.trans (Jg.mono i_)).alloc (by have:=Jg.size;simp at this;omega) o))
   | ((with_reducible refine Calls.mono (Jm.out _ (Jy.out _)) ?_);intro x wn hx;obtain⟨bm,D,Ya,Yn,Xx,X_,Jg⟩:=hx;subst Ya;have q:=HY.out wn ((Jy.out _).trans (Jg.mono i_));have Ja:=Zf.out wn Jg;have⟨b0,f0⟩:=Ja 0 _ rfl;have⟨b1,f1⟩:=Ja 1 _ rfl;have⟨b2,f2⟩:=Ja 2 _ rfl;have⟨b3,f3⟩:=Ja 3 _ rfl;have⟨b4,f4⟩:=Ja 4 _ rfl;have⟨b5,f5⟩:=Ja 5 _ rfl;have⟨b6,f6⟩:=Ja 6 _ rfl;have⟨b7,f7⟩:=Ja 7 _ rfl;have⟨b8,f8⟩:=Ja 8 _ rfl;have⟨b9,f9⟩:=Ja 9 _ rfl;have⟨Vv,Vw⟩:=Ja 10 _ rfl;have⟨Vu,Vt⟩:=Ja 11 _ rfl))
  all_goals (go_wp2_with fail)
  all_goals go_meet
  have Jb:Bl W1 wn:=Jk.out.trans (Jg.mono i_);exact⟨wn.heap.size,bm,rfl,Jq Ye.out Zl.out Yw.out Yc.out Jb Xx (by simpa using Yn) X_⟩;have Jb:Bl W1 wn:=(Jy.out _).trans (Jg.mono i_);exact⟨W1.heap.size,bm,rfl,Jr rfl Ye.out Zl.out Yw.out Yc.out Jb Ja rfl Xx (by simpa using Yn) X_⟩
 case rest=>
  obtain⟨P,bN,rfl,hA⟩:=hcut;have I:=Js hA;have⟨W2,Yd⟩:=q_ ((wc.setCell ⟨P,4,none⟩ (.map (some wc.heap.size))).alloc (.map #[] 0));have⟨bM,Yy⟩:=q_ wc.heap.size;rw[<-Yd,<-Yy]at I;have y4:=(hA.box 4 _ rfl).1;have f4:=(hA.box 4 _ rfl).2;have x0:=(I.tre 0 _ rfl).1;have HB:=ah I;have Yr:=ah Yd;have Vb:P<wc.heap.size:=by have:=I.ne;omega
  have Vm:= @run_makeMap prog;clear hA I Yd Yy Zf Jk Jy Jm HY Yc;go_upto_region 3 with fail;rw[<-Yr.out];clear Vm y4 f4 Vb;go_wp2;go_loopw[26] (λi wr=>∃(k:Nat) (gb:List Nat),i=V (k:Int)/\k<=t.gl.length/\tH w t (.slice ag t.gl.length cg) (.slice U t.fc.length Z) (.slice ai ni ci) F (.slice aF nF cF) B0 P bN bM k gb wr) (λi _=>t.gl.length-(RowKit.intOf i).toNat)
  case atStart=>exact⟨0,[],rfl,y_,HB⟩
  case round=>
   clear HB x0 Yr;obtain⟨k,gb,rfl,hk,I⟩:=hrel;by_cases hlt:k<t.gl.length
   ·have Zz:(k:Int)<(t.gl.length:Int):=o_
    have Xh:=ah hlt;have Z_:k<maxLen:=(by unfold maxLen;omega);obtain⟨bg,Y_,rfl,Yv⟩:=Vg.out o_;have⟨c0,c1⟩:=Yv k hlt;have Xb:bg<w.heap.size:=b_ c0;have d0:=(I.bel.cell (p:=⟨bg,_,none⟩) Xb).trans c0;have d1:=(I.bel.cell (p:=⟨bg,_,none⟩) Xb).trans c1;have Zu:=Va.out _ (g_ hlt);have⟨N,hN⟩:=q_ (ju t.gl[k]);have Zx:(if t.gl[k].size<1 then 1 else t.gl[k].size)=(N:Int):=by rw[hN];unfold ju;split <;> split <;> omega
    have Yt:N<=4000:=by rw[hN];unfold ju;split <;> omega
    have⟨Wg,Jp⟩:=q_ (wr.alloc (.cells #[sV t.gl[k].nm,V t.gl[k].size] 48));have⟨Bg,Yh⟩:=q_ wr.heap.size;have Zh:Bl wr Wg:=(by rw[Jp];exact r_.alloc n_ _);have Yq:aN Wg Bg [sV t.gl[k].nm,V t.gl[k].size]:=(by rw[Jp,Yh];exact aI wr _ _ (by show 2<=1000;omega));have⟨W3,Jl⟩:=q_ Wg.drew;have Jv:Bl Wg W3:=(by rw[Jl];exact r_.drew);have Xe:=(I.below Zh).below Jv;have Je:=Yq.below Jv;have⟨W4,Xo⟩:=q_ (W3.alloc (.cells (Array.replicate N (V 0)) 2));have Xv:Bl W3 W4:=(by rw[Xo];exact r_.alloc n_ _);have Yz:=Xe.below Xv;have Xy:=Je.below Xv;have⟨D,Zc,hD⟩:=Xe.glb;have Xd:W4.ownsMap prog 9 gD bM k D:=bX Zc (Xv.tcs (S:=λ_=>False)) (λe=>e);have Ve:=pC N Yt W3;rw[<-Xo]at Ve;have Zn:t.gl[k].nm.size<=maxLen:=Vn.out _ (g_ hlt);have⟨w5,Yj,Jf,Jd⟩:=Xd.update (t:=69) (val:=rV W3.heap.size N N) (Maps.string_keyed underlying9) underlying69 Z_ (WideMaps.keyOf_string_mk underlying9 Zn) (show gD _=some _ from rfl);have Vq:Hid (tH w t (.slice (some ⟨bg,Y_,none⟩) t.gl.length cg) (.slice U t.fc.length Z) (.slice ai ni ci) F (.slice aF nF cF) B0 P bN bM (k+1) (gb++[W3.heap.size]) w5):=by exact Xe.moreN Vk.out hlt hN Yt Xo hD Jf Jd
    have Xl:W3.cell? ⟨P,4,none⟩=some (.map (some bM))/\W3.cell? ⟨Bg,0,none⟩=some (sV t.gl[k].nm)/\W3.cell? ⟨Bg,1,none⟩=some (V t.gl[k].size):=⟨(Xe.box 4 _ rfl).1,(Je 0 _ rfl).1,(Je 1 _ rfl).1⟩;have Xt:W4.cell? ⟨P,4,none⟩=some (.map (some bM))/\W4.cell? ⟨Bg,0,none⟩=some (sV t.gl[k].nm)/\W4.cell? ⟨Bg,1,none⟩=some (V t.gl[k].size):=⟨(Yz.box 4 _ rfl).1,(Xy 0 _ rfl).1,(Xy 1 _ rfl).1⟩;generalize t.gl[k].nm=gnm at d0 Jp Xl Xt Yj;generalize t.gl[k].size=gsz at d1 Jp Xl Xt Zx;have J:=ah Xl;have Vf:=ah Xt;have Vp:=ah Jp;have Zw:=ah Yh;have Yi:=ah Jl;clear I Yv c0 c1 Zu hN Jp Yh Zh Yq Jl Jv Xe Je Xo Xv Yz Xy Zc hD Xd Jf Jd Xl Xt Zn;go_upto_region 6 with fail;rw[<-Vp.out,<-Zw.out];refine cq 8 (λX=>X.cell? ⟨P,4,none⟩=some (.map (some bM))/\X.cell? ⟨Bg,0,none⟩=some (sV gnm)/\X.cell? ⟨Bg,1,none⟩=some (V gsz)) k_ ?_;rw[<-Yi.out];refine tk 0 [1,8] J.out ?_;refine tk 1 [8] J.out ?_;refine tk 2 [3,8] J.out ?_;refine tk 3 [8] J.out ?_;refine tk 4 [5,6,7,8] J.out ?_;refine tk 5 [6,7,8] J.out ?_;refine tk 6 [7,8] J.out ?_;clear J;refine aB (i:=7) k_ rfl (λK hK=>?_);go_simp;refine hK.out _ _ (λ_=>Vf) ?_;clear hK K;try simp only[Act.put,tA,tB,tC]
    refine aB (i:=8) k_ rfl (λK hK=>?_);go_simp;refine hK.out _ _ (λh=>absurd rfl h) ?_;clear hK K;refine co k_ ?_ _;go_wp2;go_roundw
    case rel=>exact⟨k+1,gb++[W3.heap.size],by go_num,by have:=Xh.out;omega,Vq⟩
    case measure=>have:=Xh.out;simp[RowKit.intOf];omega
   obtain rfl:k=t.gl.length:=(by omega);have Yx:=Jt (t:=t) I.box;have x1:=(I.tre 1 _ rfl).1;have Xs:=ah I;have Yu:=ah Yx;clear I Yx;go_wp2;go_loopw[42] (λi w2=>∃(k:Nat) (vB:Value) (S:Nat->Prop),i=V (k:Int)/\k<=t.fc.length/\Ek t (.slice ag t.gl.length cg) (.slice U t.fc.length Z) (.slice ai ni ci) F (.slice aF nF cF) P bN bM wr k vB S w2) (λi _=>t.fc.length-(RowKit.intOf i).toNat)
   case atStart=>exact⟨0,_,_,rfl,y_,Yu⟩
   case round=>
    clear Yu x1;obtain⟨k,vB,S,rfl,hk,hC⟩:=hrel;have Jb:Bl w wr:=hC.tc.below Xs.out.bel Xs.out.bel.size (λb hb=>by have e:b=P:=hb;have:=Xs.out.ne;omega);by_cases hlt:k<t.fc.length
    ·have Zz:(k:Int)<(t.fc.length:Int):=o_
     have Xh:=ah hlt;obtain⟨bf,Y_,rfl,Ys⟩:=Zt.out o_;have⟨vp,vb,⟨c0,c1,c2⟩,Zb,Xj⟩:=Ys k hlt;have Ji:bf<w.heap.size:=b_ c0;have d0:=(Jb.cell (p:=⟨bf,_,none⟩) Ji).trans c0;have d1:=(Jb.cell (p:=⟨bf,_,none⟩) Ji).trans c1;have d2:=(Jb.cell (p:=⟨bf,_,none⟩) Ji).trans c2;have⟨Jx,Za,Jv⟩:=Vi.out _ (g_ hlt);obtain⟨ap,cp,Zd,-⟩:=id Zb;obtain⟨ab,cb,Zi,-⟩:=id Xj;have Yp:=wj t.fc k hlt;rw[Zd]at d1;rw[Zi]at d2 Xj;have⟨Wf,Xr⟩:=q_ (wr.alloc (.cells #[sV t.fc[k].nm,.slice ap t.fc[k].pm.length cp,.slice ab t.fc[k].bd.length cb] 52));have⟨Bf,Xz⟩:=q_ wr.heap.size;have Xn:Bl wr Wf:=(by rw[Xr];exact r_.alloc n_ _);have Zg:aN Wf Bf [sV t.fc[k].nm,.slice ap t.fc[k].pm.length cp,.slice ab t.fc[k].bd.length cb]:=(by rw[Xr,Xz];exact aI wr _ _ (by show 3<=1000;omega));have⟨W3,Jl⟩:=q_ Wf.drew;have Xm:Bl Wf W3:=(by rw[Jl];exact r_.drew);have Je:=Zg.below Xm;have J_:Bf<W3.heap.size:=b_ (Je 0 _ rfl).1;obtain⟨Vx,-,Jc,-⟩:=hC.row;have Yb:∀B,vB.ownBlock=some B->B<Bf:=λB I=>by have:=(World.ownsRow.lt Jc B I).2;omega
     obtain⟨Jo,Ju,Zk,-⟩:=jf Jc;have Xu:=(hC.below Xn).below Xm;have Jh:Bl w W3:=(Jb.trans (Xn.mono Jb.size)).trans (Xm.mono (by have:=Jb.size;have:=Xn.size;omega));have Yl:=ah (mQ t.fc[k].bd (.slice ab t.fc[k].bd.length cb) W3 (Xf.out.below Xf.out.size Jh) (Xj.below Jh) Jx Za Jv);have Vr:∀X,Bl W3 X->True:=λ_ _=>trivial;have Jj:Hid (∀(u:Value) (S':Nat->Prop) (w5:World),Bk w5 S' u t.fc[k].bd->(∀B,S' B->W3.heap.size<=B/\B<w5.heap.size)->Bl W3 w5->_):=λu S' w5 g1 g2 g3=>(Xu.below g3).more (by rw[Yp];exact g1) g2 Xu.tc.size (λB I=>Nat.lt_trans (Yb B I) J_) o_;have Jw:=ah Je;have Xp:=ah Xu;have Yf:=ah Yb;have Jn:=ah Xr;have Zv:=ah Xz;have Yi:=ah Jl;rw[Zk]at Jj Xp Yf;generalize t.fc[k].bd.length=nb at d2 Jn Jw Yl;generalize t.fc[k].pm.length=np at d1 Jn Jw;generalize t.fc[k].nm=fnm at d0 Jn Jw;have J:Hid (W3.cell? ⟨P,3,none⟩=some (.slice Jo k Ju)/\W3.cell? ⟨Bf,2,none⟩=some (.slice ab nb cb)):=⟨(Xp.out.box 3 _ rfl).1,(Jw.out 2 _ rfl).1⟩;clear hC Jb c0 c1 c2 Zb Xj Ys Jx Za Jv Zd Zi Yp Xr Xz Xn Zg Jl Xm Je Jc Yb Zk Xu Jh Vr;go_upto_region 11 with fail;rw[<-Jn.out,<-Zv.out];refine cq 8 (λX=>X.cell? ⟨P,3,none⟩=some (.slice Jo k Ju)/\X.cell? ⟨Bf,2,none⟩=some (.slice ab nb cb)) k_ ?_;rw[<-Yi.out];refine tk 0 [1,6,8] J.out ?_;refine tk 1 [6,8] J.out ?_;refine tk 2 [3,4,5,6,8] J.out ?_;refine tk 3 [4,5,6,8] J.out ?_;clear J;refine aB (i:=4) k_ rfl (λK hK=>?_);go_simp;refine Yl.out.mono ?_;rintro e w5 ⟨u,S',rfl,g1,g2,g3⟩;have⟨xa,xn,xc,va,vc,w6,hu,r6,⟨y3,f3⟩,t6,Ze⟩:=Jj.out u S' w5 g1 g2 g3;subst hu;have⟨W5,Xq⟩:=q_ (w5.alloc (.cells #[.slice xa xn xc] 85));have Yo:Bl w5 W5:=(by rw[Xq];exact r_.alloc n_ _);have Xk:=Jw.out.below g3;have Ym:=Xp.out.below g3;have Vd:Hid (w5.cell? ⟨P,3,none⟩=some (.slice Jo k Ju)/\w5.cell? ⟨Bf,2,none⟩=some (.slice ab nb cb)):=⟨(Ym.box 3 _ rfl).1,(Xk 2 _ rfl).1⟩;have Vc:Hid (W5.cell? ⟨P,3,none⟩=some (.slice Jo k Ju)/\W5.cell? ⟨Bf,2,none⟩=some (.slice ab nb cb)):=⟨((Ym.below Yo).box 3 _ rfl).1,((Xk.below Yo) 2 _ rfl).1⟩;have Zm:Hid (w6.cell? ⟨P,3,none⟩=some (.slice Jo k Ju)/\w6.cell? ⟨Bf,2,none⟩=some (.slice ab nb cb)):=⟨y3,(Xk.tcs (l_ J_ g3.size) t6 (λe=>absurd (Yf.out Bf e) (Nat.lt_irrefl _)) 2 _ rfl).1⟩;rw[<-Xq]at r6;have Vh:=ah r6;have Vl:=ah Xq;have Zy:=ah Ze;clear g1 g2 g3 r6 t6 Ze Xq Yo Xk Ym Jj Yl Xp Jw Yf;refine hK.out _ _ (λ_=>Vd) ?_;clear hK K;try simp only[Act.put,tA,tB,tC]
     refine aB (i:=5) k_ rfl (λK hK=>?_);go_simp;rw[<-Vl.out];refine hK.out _ _ (λ_=>Vc) ?_;clear hK K;try simp only[Act.put,tA,tB,tC]
     refine aB (i:=6) k_ rfl (λK hK=>?_);refine dW rfl (.tmp 47) (.tmp 51) 68 rfl (.slice Jo k Ju) (rV w5.heap.size 1 1) (.slice va (k+1) vc) w6 rfl rfl Vh.out ?_;refine hK.out _ _ (λ_=>Zm) ?_;clear hK K;try simp only[Act.put,tA,tB,tC]
     have J:=Zm;refine tk 7 [8] J.out ?_;clear J;refine aB (i:=8) k_ rfl (λK hK=>?_);go_simp;refine hK.out _ _ (λh=>absurd rfl h) ?_;clear hK K y3 f3;refine co k_ ?_ _;go_wp2;go_roundw
     case rel=>exact⟨k+1,_,_,by go_num,by have:=Xh.out;omega,Zy⟩
     case measure=>have:=Xh.out;simp[RowKit.intOf];omega
    obtain rfl:k=t.fc.length:=(by omega);have HC:=ah hC;clear hC Jb;go_wp2;go_ret;exact⟨B0,P,bN,bM,gb,_,vB,S,rfl,Xs,HC⟩
def startC(w W:AT)(t:Tr)(fr:List Int)(vg vf vFr:BY)(P bN bM bB cB:Nat)(S:Ft)(gb:List Nat):IC:=⟨w,W,t,fr,vg,vf,vFr,P,bN,bM,bB,cB,S,gb⟩
def Em{t:Tr}{fr i:List Int}{w Wm W:AT}{vg vf vI Je vB:BY}{F:Int}{B0 P bN Z:Nat}{J:List Nat}{S:Ft}(I:tH w t vg vf vI F Je B0 P bN Z t.gl.length J Wm)(U:Ek t vg vf vI F Je P bN Z Wm t.fc.length vB S W)(hf:bj w vf t.fc)(Jn:nL w Je fr)(hi:nL w vI i)(Jq:(aQ t).1=0)(Jp:fr.length=t.fc.length)(Jo:∀x∈fr,0<=x/\x<=1000000000)(sm:t.gl.length<=1000/\t.fc.length<=1000)(Jv:0<t.fc.length)(hF:0<=F/\F<=100000)(Jr:∀x∈i,d7 x):
  ∃bB cB,(startC w W t fr vg vf Je P bN Z bB cB S J).Ok/\IS (startC w W t fr vg vf Je P bN Z bB cB S J) W none vI nV (sL t i F):=by
 have⟨xs,Js,Jc,Jf⟩:=U.row;have⟨n1,D1,Ji,Jm⟩:=I.num;have⟨D2,Jk,Jl⟩:=I.glb;have⟨e1,e2,e3,e4,e5,e6,e7⟩:=I.ne;have Ja:=Jc;rcases Jc.2 with⟨e,hz⟩|⟨bB,cB,Jt,e,h3,h4,h5⟩
 omega;have Ju:=ownsRow.lt Jc bB (by rw[e];rfl);have sW:=U.tc.size;have Jb:∀b∈J,Z<b/\b<Wm.heap.size:=I.gr;refine⟨bB,cB,⟨U.tc.below I.bel I.bel.size (λb hb=>by have e:b=P:=hb;show w.heap.size<=b;omega),hf,Jn,Jq,Jp,Jo,I.gbl,sm,⟨n1,D1,bX Ji U.tc (λe=>e4 e),Jm⟩,λf hf'=>?_,⟨_,D2,bX Jk U.tc (λe=>by have e':Z=P:=e;omega),?_⟩,λB hS=>?_,λB h=>?_,?_⟩,?_⟩
 have⟨a,Jj,L,g1,g2,g3⟩:=Jf f hf';refine⟨a,Jj,L,?_,g2,?_⟩
 rw[e]at Ja;have:=ownsRow.cells Ja (g:=bB) rfl f _ g1;rwa[dk,Nat.zero_add]at this;rw[<-g3];exact(wj t.fc f hf').symm
 have:=Jl
 rw[take_length]at this;exact this
 have⟨g1,g2,g3⟩:=U.sS B hS;exact⟨g2,λe=>by have e':B=P:=e;omega,λhm=>Ka (Jb B hm)⟩
 rcases h with h|h|h;have e':B=bN:=h;exact⟨by show B<W.heap.size;omega,λe=>e4 (e'.symm.trans e),λhm=>Ka (Jb B hm)⟩;have e':B=Z:=h;exact⟨by show B<W.heap.size;omega,λe=>by have e2:B=P:=e;omega,λhm=>Ka (Jb B hm)⟩;have e':B=bB:=h;exact⟨by show B<W.heap.size;omega,λe=>by have e2:B=P:=e;omega,λhm=>Ka (Jb B hm)⟩;exact⟨λhm=>Ka (Jb P hm),I.nd,by show w.heap.size<=P;omega,by show P<W.heap.size;omega,λb hb=>⟨by show w.heap.size<=b;have:=Jb b hb;omega,by show b<W.heap.size;have:=Jb b hb;omega⟩⟩;have Jh:((F.toNat:Nat):Int)=F:=Int.toNat_of_nonneg hF.1;have Jg:J.length=t.gl.length:=I.gbl;refine⟨aj.refl _ _,?_,by show(t.gl.map Fi).length=J.length;simp[Jg],λk hk=>?_,λk hk Jd=>?_,.inl ⟨rfl,rfl⟩,hi,ownsRow_nil _ _ _ _,⟨λws hws x hx=>?_,λx hx=>(by cases hx),Jr⟩,⟨?_,?_⟩,?_⟩
 have:=U.box
 rw[e]at this;show aN W P _;simp only[sL,startC,Jh];exact this;have Jd:k<t.gl.length:=(by have h1:k<J.length:=hk;omega);have e1:((sL t i F).g.getD k [])=Fi t.gl[k]:=(by simp[sL,List.getD,Jd]);rw[e1,Fk];have hr:=Jb J[k] (g_ hk);exact(I.gw k hk Jd).tcs hr.2 U.tc (λe=>by have e':J[k]=P:=e;omega);have e1:(sL t i F).g[k]=Fi (t.gl[k]'Jd):=getElem_map ..;show((sL t i F).g[k]).length=ju (t.gl[k]'Jd);rw[e1];exact Fj _;have h1:ws∈t.gl.map Fi:=hws;obtain⟨g,-,rfl⟩:=mem_map.1 h1;have:=eq_of_mem_replicate hx;rw[this];exact wM;show F.toNat<=100000;omega;show 0+F.toNat<=100000;omega
 show(0:Int)<=0/\(0:Int)+1000000000*(F.toNat:Int)<=100001000000000/\(0:Int)<=0/\(0:Int)<=100001000000000;omega
section
variable{n:Nat}{r:ER}{s':ES}
def F8(C:IC)(w:AT)(vO:BY):qD C w vO nV []:=⟨none,0,rfl,n_,o_,λh=>absurd h i_⟩
def BA{C:IC}(Z:C.Ok){i:List Int}{F:Int}(hF:0<=F/\F<=100000){W:AT}{I:BY}(h:IS C W none I nV (sL C.t i F)){m:Nat}(J:Ev C.t C.fr n (.c m []) (sL C.t i F) r s')(U:∀hf:m<C.t.fc.length,C.t.fc[m].pm=[]):
  Calls prog 29 #[pV C.P,V (m:Int),nV] W λx w'=>kH C W none nV r s' x w':=by
 refine(Ei Z n).2.1 m [] _ r s' J (λhf=>by rw[U hf];rfl) (λx hx=>(by cases hx)) ?_ W none I _ _ h (F8 C W _);have:((sL C.t i F).u:Int)=F:=Int.toNat_of_nonneg hF.1;show(0:Int)+1000000000*(((sL C.t i F).u:Int)+1)<=100001000000000;rw[this];omega
theorem En{t:Tr}{fr:List Int}{k:Tk}{s:ES}(h:Ev t fr n k s r s')(I:∀v,r ≠ .ret v):pE (cH r)=Ju r:=by
 cases r using ER.cs with
 | val v=>rfl
 | on=>rfl
 | ret v=>exact absurd rfl (I v)
 | out c=>rcases h.outc c rfl with e|e <;> (subst e;rfl)
end
