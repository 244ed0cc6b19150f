import Derived.Test.YtffnkkpmlplfeaaGreatDoorN19
import Derived.Test.YtffnkkpmlplfeaaGreatDoorN02
namespace Go.Proofs.YtffnkkpmlplfeaaGreatDoor
open Go.Proofs.Tryz
open Go.RowKit
set_option linter.all false
set_option maxRecDepth 100000
set_option maxHeartbeats 16000000
variable[Inhabited Pick]
section
variable {fs:List Fu} {s:ByteArray}
def fnumI (fs:List Fu) (s:ByteArray):Int:=match fnum fs s with|some i=>(i:Int)|none => -1
theorem fnumI_some {i:Nat} (h:fnum fs s=some i):fnumI fs s=i:=by unfold fnumI;rw[h]
theorem fnumI_none (h:fnum fs s=none):fnumI fs s = -1:=by unfold fnumI;rw[h]
theorem ne_list {a b:ByteArray} (h:a≠b):(a.toList == b.toList)=false:=by
 rw[beq_eq_false_iff_ne];intro e;rw[ByteArray.toList_eq,ByteArray.toList_eq] at e;exact h (ByteArray.ext (Array.ext' e))
theorem l3func_any (fs:List Fu) (vg vf:Value) (s:ByteArray) (w:World) (hl:fs.length<=1048576) (hf:Funcs w vf fs) :
  Calls prog 32 #[.agg #[vg,vf],.string s] w λe w'=>e=.returned (.int .i64 (fnumI fs s))/\Below w.heap.size w w':=by
 obtain⟨af,cf,rfl,-,-,hfc⟩:=hf;have HFC:=hide hfc;go_enter func32,ntmps32;go_wp2_with fail;go_loopw [5] (λi wr=>∃k:Nat,k<=fs.length/\i=.int .i64 k/\(∀j (hj:j<fs.length),j<k->fs[j].name≠s)/\Below (w.heap.size+1) (w.alloc (.cells #[vg,.slice af fs.length cf] 34)) wr) (λi _=>fs.length-(RowKit.intOf i).toNat)
 case atStart=>exact⟨0,y_,rfl,λj hj h=>absurd h (Nat.not_lt_zero _),r_⟩
 case round=>
  obtain⟨k,hk,rfl,hn,hB⟩:=hrel;have HN:=hide hn;have hBw:=one_below hB;obtain⟨x0,x1⟩:=box2 hB;by_cases hlt:k<fs.length
  ·obtain⟨b,off,rfl,hc⟩:=HFC o_;obtain⟨vp,vb,⟨d0,d1,d2⟩,-,-⟩:=(hc.below hBw) k hlt;by_cases hs:fs[k].name=s
   ·have HR:Hid (fnumI fs s=k):=fnumI_some (fnum_at hlt (λj hj=>HN j o_ hj) hs);rw[hs] at d0;go_wp2;go_ret;exact⟨ret_int HR.o.symm,hBw⟩
   ·have HS:Hid (∀j (hj:j<fs.length),j<k+1->fs[j].name≠s):=λj hj h=>by
     by_cases e:j=k
     ·subst e;exact hs
     ·exact HN j hj o_
    have hs':=ne_list hs;generalize fs[k].name=fn at d0 hs hs';go_wp2_with fail;go_roundw
    case rel=>exact⟨k+1,by omega,by go_num,HS,hB⟩
    case measure=>simp[RowKit.intOf];omega
  ·have HR:Hid (fnumI fs s = -1):=fnumI_none (fnum_no (λj hj=>HN j hj o_));go_wp2;go_ret;exact⟨ret_int HR.o.symm,hBw⟩
end
section
variable {b nn:Nat} {D:DataW Unit} {W:World} {fs:List Fu} {s:ByteArray}
theorem map_below {P:Program} {k:TypeId} {R:Value->Option (DataW Unit × List MemPlace)} {w w':World} {n:Nat} (h:w.ownsMap P k R b n D) (hb:Below w.heap.size w w'):w'.ownsMap P k R b n D:=by
 have hlt:=h.lt;obtain⟨es,clock,h0,F,hs,hD⟩:=h;exact⟨es,clock,(hb.block b hlt).trans h0,F,hs,hD⟩
theorem look_num (hown:W.ownsMap prog 9 (plainElem (H:=Unit) prog 2) b nn D) (hN:NumIs D fs) (hs:s.size<=maxLen) {g:Nat} (h:fnum fs s=some g) :
  (Instr.lookup 77 (.map (some b)) (.string s) true).run prog W=.ok (.tuple #[.int .i64 (g:Int),.bool true]) W:=by
 obtain⟨v,ps,hrun,hv⟩:=hown.look_ok (Maps.string_keyed underlying9) underlying77 (zeroValue2 _) (plainElem_int underlying2 (by decide)) (WideMaps.keyOf_string_mk underlying9 hs);rw[hN.val s g h] at hv;obtain⟨c,rfl,hc,_⟩:=plainElem_int_inv underlying2 hv;simp only[Prod.mk.injEq,DataW.lit.injEq,Lit.int.injEq,true_and] at hc;obtain⟨hc,-⟩:=hc;subst hc;have hh:=hN.has s;rw[h] at hh;rw[hh] at hrun;exact hrun
theorem look_no (hown:W.ownsMap prog 9 (plainElem (H:=Unit) prog 2) b nn D) (hN:NumIs D fs) (hs:s.size<=maxLen) (h:fnum fs s=none) :
  (Instr.lookup 77 (.map (some b)) (.string s) true).run prog W=.ok (.tuple #[.int .i64 0,.bool false]) W:=by
 obtain⟨v,ps,hrun,hv⟩:=hown.look_ok (Maps.string_keyed underlying9) underlying77 (zeroValue2 _) (plainElem_int underlying2 (by decide)) (WideMaps.keyOf_string_mk underlying9 hs);have hh:=hN.has s;rw[h] at hh;rw[Maps.atKey_of_not_has hh] at hv;obtain⟨c,rfl,hc,_⟩:=plainElem_int_inv underlying2 hv;simp only[Prod.mk.injEq,DataW.lit.injEq,Lit.int.injEq,true_and] at hc;obtain⟨hc,-⟩:=hc;subst hc;rw[hh] at hrun;exact hrun
theorem fnums_any (fs:List Fu) (vg vf:Value) (w:World) (hl:fs.length<=1048576) (hw:wfFs fs) (hf:Funcs w vf fs) :
  Calls prog 68 #[.agg #[vg,vf]] w λe w'=>∃b D,e=.returned (.map (some b))/\w.heap.size<=b/\w'.ownsMap prog 9 (plainElem (H:=Unit) prog 2) b fs.length D/\NumIs D fs/\Below w.heap.size w w':=by
 obtain⟨af,cf,rfl,-,-,hfc⟩:=hf;obtain⟨HFC,HW⟩:=h2 hfc hw;have hmm := @run_makeMap prog;go_enter func68,ntmps68;go_wp2_with fail;go_loopw [12] (λi wr=>∃(k:Nat) (D:DataW Unit),k<=fs.length/\i=.int .i64 k/\wr.ownsMap prog 9 (plainElem (H:=Unit) prog 2) (w.heap.size+1) k D/\NumIs D (fs.take k)/\Bl w wr) (λi _=>fs.length-(RowKit.intOf i).toNat)
 case atStart=>exact⟨0,.map [],y_,rfl,by simpa using World.ownsMap_made (w.alloc _) prog 9 _,NumIs.nil,(bel_a _ _).alloc (by simp) _⟩
 case round=>
  obtain⟨k,D,hk,rfl,hM,hN,hB⟩:=hrel;have HM:Hid (wr.ownsMap prog 9 (plainElem (H:=Unit) prog 2) (w.heap.size+1) k D):=hM;have HN:=hide hN;have hlt0:=hM.lt;by_cases hlt:k<fs.length
  ·obtain⟨b,off,rfl,hc⟩:=HFC o_;obtain⟨vp,vb,⟨d0,d1,d2⟩,⟨ap,cp,rfl,-⟩,⟨ab,cb,rfl,-⟩⟩:=(hc.below hB) k hlt;generalize fs[k].params.length=np at d1;generalize fs[k].body.length=nb at d2;have HE:Hid (fs.take (k+1)=fs.take k++[fs[k]]):=take_succ fs k hlt;have HZ:Hid (fs[k].name.size<=maxLen):=by
    have:=(HW.o.2 fs[k] (g_ hlt)).1
    show _<=_;unfold maxLen;omega
   have HTl:Hid ((fs.take k).length=k):=by show _=_;simp;omega
   generalize fs[k]=f at d0 d1 d2 HE HZ;have HMa:Hid ((wr.alloc (.cells #[.string f.name,.slice ap np cp,.slice ab nb cb] 97)).ownsMap prog 9 (plainElem (H:=Unit) prog 2) (w.heap.size+1) k D):=HM.o.alloc _;cases hv:fnum (fs.take k) f.name with
   | none=>
    have hlook:=look_no HMa HN HZ hv;have HV:Hid (Maps.has D (kS f.name)=false):=by show _=_;rw[HN.o.has,hv];rfl
    go_wp2_with (first
     | (at_mapUpdate;refine wpList_mapUpdate_own _ rfl _ _ _ 77 rfl 9 2 (Maps.string_keyed underlying9) underlying77 _ (w.heap.size+1) k D rfl HMa (by unfold maxLen;omega) _ _ _ rfl rfl (WideMaps.keyOf_string_mk underlying9 HZ) _ [] (plainElem_int underlying2 (WalkArith.wf_i64 o_)) ?_;intro w1 hown1 hgrow1)
     | go_in)
    have HM1:=hide hown1;have HN1:Hid (NumIs (D.put (kS f.name) (.lit (.int .i64 (k:Int)))) (fs.take (k+1))):=by
     have:=HN.o.new HV.o
     rw[HTl.o] at this;rw[HE.o];exact this
    have hB1:Bl w w1:=(hB.alloc hB.size _).grown hgrow1 (by have:=hB.size;simp;omega) (λj hj=>by cases hj;omega);go_wp2_with fail;go_roundw
    case rel=>exact⟨k+1,_,by omega,by go_num,HM1,HN1,hB1⟩
    case measure=>simp[RowKit.intOf];omega
   | some g=>
    have hlook:=look_num HMa HN HZ hv;have HV:Hid (Maps.has D (kS f.name)=true):=by show _=_;rw[HN.o.has,hv];rfl
    go_wp2_with fail;go_roundw
    case rel=>exact⟨k+1,D,by omega,by go_num,HMa.o.mono o_,by rw[HE.o];exact HN.o.old HV,hB.alloc hB.size _⟩
    case measure=>simp[RowKit.intOf];omega
  ·have hkk:k=fs.length:=by omega
   have HR:Hid (NumIs D fs):=by have:=HN.o;rw[List.take_of_length_le o_] at this;exact this
   go_wp2;go_ret;exact⟨_,D,rfl,by omega,by rw[<-hkk];exact HM,HR,hB⟩
end
section
variable {α:Type} {w:World}
theorem drop_cons2 (l:List α) (j:Nat) (h:j<l.length):l.drop j=l[j]::l.drop (j+1):=(List.getElem_cons_drop h).symm
theorem drop_take_2 (l:List α) (i j:Nat):(l.take (i+j)).drop i=(l.drop i).take j:=by
 rw[List.drop_take];congr 1;omega
theorem drop_take_3 (l:List α) (k i j:Nat):(l.take (k+i+j)).drop (k+i)=((l.drop k).take (i+j)).drop i:=by
 rw[drop_take_2,drop_take_2,List.drop_drop]
structure TrV (w:World) (t:Tr) (vg vf:Value):Prop where
 g:Globs w vg t.globals
 f:Funcs w vf t.funcs
theorem TrV.below {w':World} {t:Tr} {vg vf:Value} (h:TrV w t vg vf) (hb:Below w.heap.size w w'):TrV w' t vg vf:=⟨h.g.below hb,h.f.below hb⟩
def L3Block (n:Nat):Prop:=∀(t:Tr) (vg vf vb vs vt:Value) (ss:List St) (a:Int) (sc tk:List ByteArray) (w:World),ss.length<=n->TrV w t vg vf->Stmts w vb ss->fitB ss=true->(∀s∈ss,smallS s)->Strs w vs sc->Strs w vt tk->t.globals.length<=1048576->t.funcs.length<=1048576 ->
 sc.length+ss.length<=800000->tk.length+ss.length<=800000->0<=a->a+ss.length<=800000 ->
 Calls prog 91 #[.agg #[vg,vf],vb,.int .i64 a,vs,vt] w λe w'=>∃vt',e=.returned (.tuple #[.int .i64 (blkE t ss a sc tk).1,.int .i64 (blkE t ss a sc tk).2.1,vt'])/\Strs w' vt' (blkE t ss a sc tk).2.2/\Below w.heap.size w w'
theorem Strs.shape {v:Value} {us:List ByteArray} (h:Strs w v us) : ∃a c,v=.slice a us.length c:=by
 obtain⟨a,c,rfl,-⟩:=h;exact⟨a,c,rfl⟩
end
theorem l3in_any (xs:List ByteArray) (v:Value) (s:ByteArray) (w:World) (hl:xs.length<=10000000) (hx:Strs w v xs) :
  Calls prog 89 #[v,.string s] w λe w'=>e=.returned (.bool (inS xs s))/\Below w.heap.size w w':=by
 obtain⟨a,c,rfl,-,-,hc⟩:=hx;have HC:=hide hc;clear hc;go_enter func89,ntmps89;go_wp2_with fail;go_loopw [5] (λi wr=>∃k:Nat,k<=xs.length/\i=.int .i64 k/\(∀j (hj:j<xs.length),j<k->xs[j]≠s)/\Bl w wr) (λi _=>xs.length-(RowKit.intOf i).toNat)
 case atStart=>exact⟨0,y_,rfl,λj hj h=>absurd h (Nat.not_lt_zero _),r_⟩
 case round=>
  obtain⟨k,hk,rfl,hn,hB⟩:=hrel;have HN:=hide hn;by_cases hlt:k<xs.length
  ·obtain⟨b,off,rfl,hc⟩:=HC o_;have d0:=(hc.below hB) k hlt;by_cases hs:xs[k]=s
   ·have HR:Hid (inS xs s=true):=inS_at hlt hs;rw[hs] at d0;clear hc hs;go_wp2;go_ret;exact⟨ret_bool HR.o.symm,hB⟩
   ·have HS:Hid (∀j (hj:j<xs.length),j<k+1->xs[j]≠s):=λj hj h=>by
     by_cases e:j=k
     ·subst e;exact hs
     ·exact HN j hj o_
    have hs':=ne_list hs;generalize xs[k]=fn at d0 hs hs';go_wp2_with fail;go_roundw
    case rel=>exact⟨k+1,by omega,by go_num,HS,hB⟩
    case measure=>simp[RowKit.intOf];omega
  ·have HR:Hid (inS xs s=false):=inS_no (λj hj=>HN j hj o_);go_wp2;go_ret;exact⟨ret_bool HR.o.symm,hB⟩
theorem l3global_any (gs:List Gl) (vg vf:Value) (s:ByteArray) (w:World) (hl:gs.length<=1048576) (hg:Globs w vg gs) :
  Calls prog 90 #[.agg #[vg,vf],.string s] w λe w'=>e=.returned (.int .i64 (globI gs s))/\Below w.heap.size w w':=by
 obtain⟨ag,cg,rfl,-,-,hgc⟩:=hg;have HGC:=hide hgc;go_enter func90,ntmps90;go_wp2_with fail;go_loopw [5] (λi wr=>∃k:Nat,k<=gs.length/\i=.int .i64 k/\(∀j (hj:j<gs.length),j<k->gs[j].name≠s)/\Below (w.heap.size+1) (w.alloc (.cells #[.slice ag gs.length cg,vf] 34)) wr) (λi _=>gs.length-(RowKit.intOf i).toNat)
 case atStart=>exact⟨0,y_,rfl,λj hj h=>absurd h (Nat.not_lt_zero _),r_⟩
 case round=>
  obtain⟨k,hk,rfl,hn,hB⟩:=hrel;have HN:=hide hn;have hBw:=one_below hB;obtain⟨x0,x1⟩:=box2 hB;by_cases hlt:k<gs.length
  ·obtain⟨b,off,rfl,hc⟩:=HGC o_;obtain⟨d0,d1⟩:=(hc.below hBw) k hlt;by_cases hs:gs[k].name=s
   ·have HR:Hid (globI gs s=gs[k].size):=globI_at hlt (λj hj=>HN j o_ hj) hs;rw[hs] at d0;generalize gs[k].size=z at d1 HR;go_wp2;go_ret;exact⟨ret_int HR.o.symm,hBw⟩
   ·have HS:Hid (∀j (hj:j<gs.length),j<k+1->gs[j].name≠s):=λj hj h=>by
     by_cases e:j=k
     ·subst e;exact hs
     ·exact HN j hj o_
    have hs':=ne_list hs;generalize gs[k].name=fn at d0 hs hs';go_wp2_with fail;go_roundw
    case rel=>exact⟨k+1,by omega,by go_num,HS,hB⟩
    case measure=>simp[RowKit.intOf];omega
  ·have HR:Hid (globI gs s = -1):=globI_no (λj hj=>HN j hj o_);go_wp2;go_ret;exact⟨ret_int HR.o.symm,hBw⟩
theorem useE_of {gs:List Gl} {scope:List ByteArray} {s:ByteArray} {arr:Bool} {z:Int} (h:(if inS scope s then 0 else globI gs s)=z):useE gs scope s arr=if z<0 then 4 else if decide (z>0)=arr then 0 else 5:=by
 unfold useE;rw[h]
theorem l3use_any (gs:List Gl) (scope:List ByteArray) (vg vf vs:Value) (s:ByteArray) (arr:Bool) (w:World) (hl:gs.length<=1048576) (hsl:scope.length<=10000000) (hf : ∃a n c,vf=.slice a n c) (hg:Globs w vg gs) (hs:Strs w vs scope) :
  Calls prog 129 #[.agg #[vg,vf],vs,.string s,.bool arr] w λe w'=>e=.returned (.int .i64 (useE gs scope s arr))/\Below w.heap.size w w':=by
 obtain⟨HG,HS⟩:=h2 hg hs;obtain⟨af,nf,cf,rfl⟩:=hf;obtain⟨ag,cg,rfl,-,-,-⟩:=hg;obtain⟨az,cz,rfl,-,-,-⟩:=hs;go_enter func129,ntmps129;go_wp2_with fail;have hA:Bl w (w.alloc (.cells #[.slice ag gs.length cg,.slice af nf cf] 34)):=bel_a _ _;refine (l3in_any scope _ s _ hsl (HS.o.below hA)).mono ?_;rintro e w1 ⟨rfl,hb1⟩;simp only[World.size_alloc] at hb1;have hB1:=one_below hb1;obtain⟨x0,x1⟩:=box2 hb1;by_cases hin:inS scope s=true
 ·have HU:Hid (useE gs scope s arr=if arr=false then 0 else 5):=by
   show _=_;rw[useE_of (show (if inS scope s=true then (0:Int) else globI gs s)=0 by rw[if_pos hin])];cases arr <;> rfl
  rw[hin];cases arr
  ·go_wp2;go_ret;exact⟨ret_int HU.o.symm,hB1⟩
  ·go_wp2;go_ret;exact⟨ret_int HU.o.symm,hB1⟩
 ·have hin':inS scope s=false:=by simpa using hin
  have HU:Hid (useE gs scope s arr=if globI gs s<0 then 4 else if decide (globI gs s>0)=arr then 0 else 5):=useE_of (by rw[if_neg hin]);rw[hin'];go_wp2_with fail;refine (l3global_any gs _ _ s _ hl (HG.o.below hB1)).mono ?_;rintro e w2 ⟨rfl,hb2⟩;have hB2:=hB1.trans (hb2.mono hB1.size);generalize globI gs s=z at HU ⊢;by_cases h0:z<0
  ·have HU2:Hid (useE gs scope s arr=4):=by show _=_;rw[HU.o,if_pos h0]
   go_wp2;go_ret;exact⟨ret_int HU2.o.symm,hB2⟩
  ·by_cases h1:z>0
   ·have HU2:Hid (useE gs scope s arr=if arr=true then 0 else 5):=by show _=_;rw[HU.o,if_neg h0,decide_eq_true h1];cases arr <;> rfl
    cases arr
    ·go_wp2;go_ret;exact⟨ret_int HU2.o.symm,hB2⟩
    ·go_wp2;go_ret;exact⟨ret_int HU2.o.symm,hB2⟩
   ·obtain rfl:z=0:=by omega
    have HU2:Hid (useE gs scope s arr=if arr=false then 0 else 5):=by show _=_;rw[HU.o];cases arr <;> rfl
    cases arr
    ·go_wp2;go_ret;exact⟨ret_int HU2.o.symm,hB2⟩
    ·go_wp2;go_ret;exact⟨ret_int HU2.o.symm,hB2⟩
theorem two_boxC {w W1:World} {x0 x1:Value} (h:W1=(w.alloc (.cells #[x0,x1] 34)).alloc (.cells #[.int .i64 0,.int .i64 0,.int .i64 0] 52)) :
  ∀W,Below (w.heap.size+2) W1 W->(W.cell? ⟨w.heap.size,0,none⟩=some x0/\W.cell? ⟨w.heap.size,1,none⟩=some x1)/\(W.cell? ⟨w.heap.size+1,0,none⟩=some (.int .i64 0)/\W.cell? ⟨w.heap.size+1,1,none⟩=some (.int .i64 0)/\W.cell? ⟨w.heap.size+1,2,none⟩=some (.int .i64 0))/\(∀o,W.frozen? ⟨w.heap.size+1,o,none⟩=false)/\Below w.heap.size w W/\w.heap.size+2<=W.heap.size:=by
 intro W hW;have hA:Bl w W1:=by rw[h];exact (bel_a _ _).alloc (by simp) _
 have hs:W1.heap.size=w.heap.size+2:=by rw[h];simp
 have c : ∀o,W.cell? ⟨w.heap.size+1,o,none⟩=(#[.int .i64 0,.int .i64 0,.int .i64 0]:Array Value)[o]? := λo=>(hW.cell (p:=⟨w.heap.size+1,o,none⟩) (by simp)).trans (by rw[h];exact World.cell?_alloc_at _ _ _ _ (by simp));have d : ∀o,W.cell? ⟨w.heap.size,o,none⟩=(#[x0,x1]:Array Value)[o]? := λo=>(hW.cell (p:=⟨w.heap.size,o,none⟩) (by simp)).trans (by rw[h,World.cell?_alloc_lt _ _ ⟨w.heap.size,o,none⟩ (by simp)];exact World.cell?_alloc_at _ _ _ _ rfl);refine⟨⟨d 0,d 1⟩,⟨c 0,c 1,c 2⟩,λo => ?_,hA.trans (hW.mono o_),by have:=hW.size;omega⟩;refine (hW.frozen (p:=⟨w.heap.size+1,o,none⟩) (by simp)).trans ?_;rw[h];exact World.frozen?_alloc_at _ _ _ _ (by simp)
theorem l3names_any (t:Tr) (vg vf:Value) (w:World) (hgl:t.globals.length<=1000) (hfl:t.funcs.length<=1000) (hg:Globs w vg t.globals) (hf:Funcs w vf t.funcs) :
  Calls prog 55 #[.agg #[vg,vf]] w λe w'=>e=.returned (resV (namesE t))/\Below w.heap.size w w':=by
 obtain⟨RES,hRES⟩ : ∃R,R=namesE t:=⟨_,rfl⟩;rw[<-hRES];have HRES:=hide hRES;have HF:Hid (Funcs w vf t.funcs):=hf;obtain⟨ag,cg,rfl,-,-,hgc⟩:=hg;obtain⟨af,cf,rfl,-,-,hfc⟩:=hf;obtain⟨HGC,HFC⟩:=h2 hgc hfc;obtain⟨i0,hi,hz0,hz1,hz2⟩:=info_parts info_str;obtain⟨W1,hW1⟩ : ∃W1,W1=(w.alloc (.cells #[.slice ag t.globals.length cg,.slice af t.funcs.length cf] 34)).alloc (.cells #[.int .i64 0,.int .i64 0,.int .i64 0] 52):=⟨_,rfl⟩;have HBx:=hide (two_boxC hW1);have hs1:W1.heap.size=w.heap.size+2:=by rw[hW1];simp
 have HR0:Hid (SRow (w.heap.size+2) (W1.alloc (.cells #[] 9)) (.slice (some ⟨w.heap.size+1+1,0,none⟩) 0 0) []):=by
  have:=srow_lit W1 (w.heap.size+2) o_
  rw[hs1] at this;exact this
 have HB0:Hid (Below (w.heap.size+2) W1 (W1.alloc (.cells #[] 9))):=r_.alloc o_ _;go_enter func55,ntmps55;go_wp2_with fail;rw[<-hW1];go_loopw [3,4] (λsv i wr=>∃(k:Nat),k<=t.globals.length/\i=.int .i64 k/\SRow (w.heap.size+2) wr sv ((t.globals.take k).map (·.name))/\dupG [] t.globals=dupG ((t.globals.take k).map (·.name)) (t.globals.drop k)/\Below (w.heap.size+2) W1 wr) (λ_ i _=>t.globals.length-(RowKit.intOf i).toNat)
 case atStart=>exact⟨0,y_,rfl,by simpa using HR0.o,by simp,HB0.o⟩
 case round=>
  obtain⟨k,hk,rfl,hR,hd,hB⟩:=hrel;obtain⟨a3,c3,rfl⟩:=hR.shape;obtain⟨HR,HD⟩:=h2 hR hd;obtain⟨⟨x0,x1⟩,⟨r0,r1,r2⟩,rz,hBw,hsz⟩:=HBx wr hB;have z0:=rz 0;have z1:=rz 1;have z2:=rz 2;have hle:((t.globals.take k).map (·.name)).length=k:=by simp;omega
  rw[hle] at HR ⊢;by_cases hlt:k<t.globals.length
  ·obtain⟨b,off,rfl,hc⟩:=HGC o_;obtain⟨c0,-⟩:=(hc.below hBw) k hlt;have hlb:b<wr.heap.size:=b_ c0;have HD2:Hid (dupG [] t.globals=dupG ((t.globals.take k).map (·.name)) (t.globals[k]::t.globals.drop (k+1))):=by show _=_;rw[HD.o,drop_cons_ _ _ hlt]
   obtain⟨HTk,HSt⟩:=h2 (take_succ _ _ hlt) (HR.o.strs (by rw[hle];omega));generalize t.globals[k]=p at c0 HD2 HTk;generalize hsn:(t.globals.take k).map (·.name)=seen at HR HD2 HSt hle;obtain⟨HSn,HIn⟩:=h2 hsn (l3in_any _ _ p.name wr (by rw[hle];omega) HSt);go_wp2_with fail;refine HIn.o.mono ?_;rintro e w2 ⟨rfl,hb2⟩;have hB2:Below (w.heap.size+2) W1 w2:=hB.trans (hb2.mono hsz);have d0:=(hb2.cell (p:=⟨b,off+k*2,none⟩) hlb).trans c0;have HR2:Hid (SRow (w.heap.size+2) w2 (.slice a3 k c3) seen):=HR.o.below hb2;obtain⟨⟨x0,x1⟩,⟨r0,r1,r2⟩,rz,hBw,hsz2⟩:=HBx w2 hB2;have z0:=rz 0;have z1:=rz 1;have z2:=rz 2;cases hx:inS seen p.name with
   | true=>
    have HE:Hid (RES=(2,-1,-1)):=by
     show _=_;rw[HRES.o];unfold namesE;rw[if_pos (by rw[HD2.o];exact dupG_hit hx)]
    go_wp2_with fail;obtain⟨t0,t1,t2⟩:=set3 (u0:=.int .i64 2) (u1:=.int .i64 (-1)) (u2:=.int .i64 (-1)) r0 r1 r2;refine bodyPost_ret (v:=.agg #[.int .i64 2,.int .i64 (-1),.int .i64 (-1)]) (by simp[results,results55,go_sem,t0,t1,t2]) rfl ⟨ret_val (by rw[HE.o];rfl),?_⟩;exact ((hBw.setCell (p:=⟨w.heap.size+1,0,none⟩) (by simp) _).setCell (p:=⟨w.heap.size+1,1,none⟩) (by simp) _).setCell (p:=⟨w.heap.size+1,2,none⟩) (by simp) _
   | false=>
    have HDn:Hid (dupG [] t.globals=dupG ((t.globals.take (k+1)).map (·.name)) (t.globals.drop (k+1))):=by show _=_;rw[HD2.o,dupG_step hx,HTk.o,<-HSn.o];simp
    have HNn:Hid (seen++[p.name]=(t.globals.take (k+1)).map (·.name)):=by show _=_;rw[HTk.o,<-HSn.o];simp
    go_wp2_with (at_builtin;refine wpList_appF rfl _ _ _ rfl (w.heap.size+2) 9 i0 _ 1 16 underlying94 hi hz0 hz1 hz2 rfl (by decide) _ k (seen.map Value.string) rfl (by have:=HR2.o.below (r_.alloc n_ (.cells #[.string p.name] 9));unfold SRow at this;rw[hle] at this;exact this) ⟨w2.heap.size,0,none⟩ 1 1 [.string p.name] rfl rfl (cell_one_new _ _ _) (by simp[Value.oneCell']) o_ (by decide) (by simp;omega) ?_)
    intro v9 w9 ho9 hg9 hf9;have HR9:Hid (SRow (w.heap.size+2) w9 v9 ((t.globals.take (k+1)).map (·.name))):=by
     show World.ownsRow _ _ _ _ _ _ _;rw[<-HNn.o,l_a,hle,List.map_append];exact ho9
    have hB9:Below (w.heap.size+2) W1 w9:=(hB2.alloc hsz2 _).grown hg9 (by simp;omega) (λg hg=>(World.ownsRow.lt HR2 g hg).1);obtain⟨a9,c9,rfl⟩:=HR9.o.shape;have hle9:((t.globals.take (k+1)).map (·.name)).length=k+1:=by simp;omega
    rw[hle9] at HR9 ⊢;go_wp2_with fail;go_roundw
    case rel=>exact⟨k+1,by omega,by go_num,HR9,HDn,hB9⟩
    case measure=>simp[RowKit.intOf];omega
  ·have hkk:k=t.globals.length:=by omega
   subst hkk;have HDG:Hid (dupG [] t.globals=false):=by show _=_;rw[HD.o];simp[dupG]
   have HRg:Hid (SRow (w.heap.size+2) wr (.slice a3 t.globals.length c3) (t.globals.map (·.name))):=by
    have:=HR.o
    rw[List.take_length] at this;exact this
   go_wp2_with fail;go_loopw [3,5] (λsv i w2=>∃(k:Nat),k<=t.funcs.length/\i=.int .i64 k/\SRow (w.heap.size+2) w2 sv (t.globals.map (·.name)++(t.funcs.take k).map (·.name))/\dupF (t.globals.map (·.name)) 0 t.funcs=dupF (t.globals.map (·.name)++(t.funcs.take k).map (·.name)) k (t.funcs.drop k)/\Below (w.heap.size+2) W1 w2) (λ_ i _=>t.funcs.length-(RowKit.intOf i).toNat)
   case atStart=>exact⟨0,y_,rfl,by simpa using HRg.o,by simp,hB⟩
   case round=>
    obtain⟨k,hk,rfl,hR,hd,hB⟩:=hrel;obtain⟨a3,c3,rfl⟩:=hR.shape;obtain⟨HR,HD⟩:=h2 hR hd;obtain⟨⟨x0,x1⟩,⟨r0,r1,r2⟩,rz,hBw,hsz⟩:=HBx wr hB;have z0:=rz 0;have z1:=rz 1;have z2:=rz 2;have hle:(t.globals.map (·.name)++(t.funcs.take k).map (·.name)).length=t.globals.length+k:=by simp;omega
    rw[hle] at HR ⊢;by_cases hlt:k<t.funcs.length
    ·obtain⟨b,off,rfl,hc⟩:=HFC o_;obtain⟨vp,vb,⟨c0,-⟩,-⟩:=(hc.below hBw) k hlt;have hlb:b<wr.heap.size:=b_ c0;have HD2:Hid (dupF (t.globals.map (·.name)) 0 t.funcs=dupF (t.globals.map (·.name)++(t.funcs.take k).map (·.name)) k (t.funcs[k]::t.funcs.drop (k+1))):=by show _=_;rw[HD.o,drop_cons_ _ _ hlt]
     obtain⟨HTk,HSt⟩:=h2 (take_succ _ _ hlt) (HR.o.strs (by rw[hle];omega));generalize t.funcs[k]=p at c0 HD2 HTk;generalize hsn:t.globals.map (·.name)++(t.funcs.take k).map (·.name)=seen at HR HD2 HSt hle;obtain⟨HSn,HIn⟩:=h2 hsn (l3in_any _ _ p.name wr (by rw[hle];omega) HSt);go_wp2_with fail;refine HIn.o.mono ?_;rintro e w2 ⟨rfl,hb2⟩;have hB2:Below (w.heap.size+2) W1 w2:=hB.trans (hb2.mono hsz);have d0:=(hb2.cell (p:=⟨b,off+k*3,none⟩) hlb).trans c0;have HR2:=hide (HR.o.below hb2);obtain⟨⟨x0,x1⟩,⟨r0,r1,r2⟩,rz,hBw,hsz2⟩:=HBx w2 hB2;have z0:=rz 0;have z1:=rz 1;have z2:=rz 2;cases hx:inS seen p.name with
     | true=>
      have HE:Hid (RES=(2,(k:Int),-1)):=by
       show _=_;rw[HRES.o];unfold namesE;rw[if_neg (by rw[HDG.o];simp),HD2.o,dupF_hit hx]
      go_wp2_with fail;obtain⟨t0,t1,t2⟩:=set3 (u0:=.int .i64 2) (u1:=.int .i64 (k:Int)) (u2:=.int .i64 (-1)) r0 r1 r2;refine bodyPost_ret (v:=.agg #[.int .i64 2,.int .i64 (k:Int),.int .i64 (-1)]) (by simp[results,results55,go_sem,t0,t1,t2]) rfl ⟨ret_val (by rw[HE.o];rfl),?_⟩;exact ((hBw.setCell (p:=⟨w.heap.size+1,0,none⟩) (by simp) _).setCell (p:=⟨w.heap.size+1,1,none⟩) (by simp) _).setCell (p:=⟨w.heap.size+1,2,none⟩) (by simp) _
     | false=>
      have HNn:Hid (seen++[p.name]=t.globals.map (·.name)++(t.funcs.take (k+1)).map (·.name)):=by show _=_;rw[HTk.o,<-HSn.o];simp
      have HDn:Hid (dupF (t.globals.map (·.name)) 0 t.funcs=dupF (t.globals.map (·.name)++(t.funcs.take (k+1)).map (·.name)) ((k+1:Nat):Int) (t.funcs.drop (k+1))):=by show _=_;rw[HD2.o,dupF_step hx,HNn.o];simp
      go_wp2_with (at_builtin;refine wpList_appF rfl _ _ _ rfl (w.heap.size+2) 9 i0 _ 1 16 underlying94 hi hz0 hz1 hz2 rfl (by decide) _ (t.globals.length+k) (seen.map Value.string) rfl (by have:=HR2.o.below (r_.alloc n_ (.cells #[.string p.name] 9));unfold SRow at this;rw[hle] at this;exact this) ⟨w2.heap.size,0,none⟩ 1 1 [.string p.name] rfl rfl (cell_one_new _ _ _) (by simp[Value.oneCell']) o_ (by decide) (by simp;omega) ?_)
      intro v9 w9 ho9 hg9 hf9;have HR9:Hid (SRow (w.heap.size+2) w9 v9 (t.globals.map (·.name)++(t.funcs.take (k+1)).map (·.name))):=by
       show World.ownsRow _ _ _ _ _ _ _;rw[<-HNn.o,l_a,hle,List.map_append];exact ho9
      have hB9:Below (w.heap.size+2) W1 w9:=(hB2.alloc hsz2 _).grown hg9 (by simp;omega) (λg hg=>(World.ownsRow.lt HR2 g hg).1);obtain⟨a9,c9,rfl⟩:=HR9.o.shape;have hle9:(t.globals.map (·.name)++(t.funcs.take (k+1)).map (·.name)).length=t.globals.length+k+1:=by simp;omega
      rw[hle9] at HR9 ⊢;go_wp2_with fail;go_roundw
      case rel=>exact⟨k+1,by omega,by go_num,HR9,HDn,hB9⟩
      case measure=>simp[RowKit.intOf];omega
    ·have HDF:Hid (dupF (t.globals.map (·.name)) 0 t.funcs=none):=by
      show _=_;have hkk:k=t.funcs.length:=by omega
      rw[HD.o,hkk,List.drop_length];rfl
     have HRm:Hid (RES=match fnum t.funcs mainS with|none=>(3,-1,-1)|some m=>if (t.funcs.getD m ⟨⟨#[]⟩,[],[]⟩).params.length>0 then (3,-1,-1) else (0,-1,-1)):=by
      show _=_;rw[HRES.o];unfold namesE;rw[if_neg (by rw[HDG.o];simp),HDF.o];rfl
     have HFu:Hid (Calls prog 32 #[.agg #[.slice ag t.globals.length cg,.slice af t.funcs.length cf],.string ⟨#[109,97,105,110]⟩] wr λe w'=>e=.returned (.int .i64 (fnumI t.funcs mainS))/\Bl wr w'):=l3func_any t.funcs _ _ mainS wr o_ (HF.o.below hBw);go_wp2_with fail;refine HFu.o.mono ?_;rintro e w2 ⟨rfl,hb2⟩;have hB2:Below (w.heap.size+2) W1 w2:=hB.trans (hb2.mono hsz);obtain⟨⟨x0,x1⟩,⟨r0,r1,r2⟩,rz,hBw,hsz2⟩:=HBx w2 hB2;have z0:=rz 0;have z1:=rz 1;have z2:=rz 2;cases hm:fnum t.funcs mainS with
     | none=>
      have HE:Hid (RES=(3,-1,-1)):=by show _=_;rw[HRm.o,hm]
      rw[fnumI_none hm];go_wp2_with fail;obtain⟨t0,t1,t2⟩:=set3 (u0:=.int .i64 3) (u1:=.int .i64 (-1)) (u2:=.int .i64 (-1)) r0 r1 r2;refine bodyPost_ret (v:=.agg #[.int .i64 3,.int .i64 (-1),.int .i64 (-1)]) (by simp[results,results55,go_sem,t0,t1,t2]) rfl ⟨ret_val (by rw[HE.o];rfl),?_⟩;exact ((hBw.setCell (p:=⟨w.heap.size+1,0,none⟩) (by simp) _).setCell (p:=⟨w.heap.size+1,1,none⟩) (by simp) _).setCell (p:=⟨w.heap.size+1,2,none⟩) (by simp) _
     | some m=>
      have hml:=fnum_lt hm;obtain⟨b,off,rfl,hc⟩:=HFC o_;obtain⟨vp,vb,⟨-,c1,-⟩,⟨ap,cp,rfl,-⟩,-⟩:=(hc.below hBw) m hml;have he:t.funcs.getD m ⟨⟨#[]⟩,[],[]⟩=t.funcs[m]:=by simp[List.getD,hml]
      rw[fnumI_some hm];have HRm2:Hid (RES=if t.funcs[m].params.length>0 then (3,-1,-1) else (0,-1,-1)):=by show _=_;rw[HRm.o,hm];simp only;rw[he]
      generalize t.funcs[m].params.length=np at c1 HRm2;by_cases hnp:0<np
      ·have HE:Hid (RES=(3,-1,-1)):=by show _=_;rw[HRm2.o,if_pos hnp]
       go_wp2_with fail;obtain⟨t0,t1,t2⟩:=set3 (u0:=.int .i64 3) (u1:=.int .i64 (-1)) (u2:=.int .i64 (-1)) r0 r1 r2;refine bodyPost_ret (v:=.agg #[.int .i64 3,.int .i64 (-1),.int .i64 (-1)]) (by simp[results,results55,go_sem,t0,t1,t2]) rfl ⟨ret_val (by rw[HE.o];rfl),?_⟩;exact ((hBw.setCell (p:=⟨w.heap.size+1,0,none⟩) (by simp) _).setCell (p:=⟨w.heap.size+1,1,none⟩) (by simp) _).setCell (p:=⟨w.heap.size+1,2,none⟩) (by simp) _
      ·have HE:Hid (RES=(0,-1,-1)):=by show _=_;rw[HRm2.o,if_neg hnp]
       obtain rfl:np=0:=by omega
       go_wp2_with fail;obtain⟨t0,t1,t2⟩:=set3 (u0:=.int .i64 0) (u1:=.int .i64 (-1)) (u2:=.int .i64 (-1)) r0 r1 r2;refine bodyPost_ret (v:=.agg #[.int .i64 0,.int .i64 (-1),.int .i64 (-1)]) (by simp[results,results55,go_sem,t0,t1,t2]) rfl ⟨ret_val (by rw[HE.o];rfl),?_⟩;exact ((hBw.setCell (p:=⟨w.heap.size+1,0,none⟩) (by simp) _).setCell (p:=⟨w.heap.size+1,1,none⟩) (by simp) _).setCell (p:=⟨w.heap.size+1,2,none⟩) (by simp) _
section
variable {t:Tr} {scope:List ByteArray} {vl:Int} {nm:ByteArray}
theorem box3K {w w':World} {t:TypeId} {a b c:Value} (h:Below (w.heap.size+1) (w.alloc (.cells #[a,b,c] t)) w') :
  w'.cell? ⟨w.heap.size,0,none⟩=some a/\w'.cell? ⟨w.heap.size,1,none⟩=some b/\w'.cell? ⟨w.heap.size,2,none⟩=some c:=by
 refine⟨?_,?_,?_⟩ <;> (rw[h.cell (by simp)];simp)
theorem nodeE_call {i:Nat} (h:fnum t.funcs nm=some i) (hi:i<t.funcs.length):nodeE t scope ⟨4,vl,nm⟩=if ((t.funcs[i].params.length:Nat):Int)=vl then 0 else 6:=by
 unfold nodeE;simp only;rw[if_neg o_,if_pos trivial,h];simp[List.getD,hi]
theorem nodeE_nocall (h:fnum t.funcs nm=none):nodeE t scope ⟨4,vl,nm⟩=4:=by
 unfold nodeE;simp only;rw[if_neg o_,if_pos trivial,h]
theorem l3expr_any (t:Tr) (scope:List ByteArray) (ns:List Nd) (vg vf vs ve:Value) (w:World) (hgl:t.globals.length<=1048576) (hfl:t.funcs.length<=1048576) (hsl:scope.length<=10000000) (hnl:ns.length<=1048576)
  (hg:Globs w vg t.globals) (hf:Funcs w vf t.funcs) (hs:Strs w vs scope) (hn:Nodes w ve ns) :
  Calls prog 128 #[.agg #[vg,vf],vs,ve] w λe w'=>e=.returned (.int .i64 (exprE t scope ns))/\Below w.heap.size w w':=by
 obtain⟨HG,HF,HS⟩:=h3 hg hf hs;obtain⟨ag,cg,rfl,-,-,-⟩:=hg;obtain⟨af,cf,rfl,-,-,hfc⟩:=hf;obtain⟨az,cz,rfl,-,-,-⟩:=hs;obtain⟨an,cn,rfl,-,-,hnc⟩:=hn;obtain⟨HFC,HNC⟩:=h2 hfc hnc;clear hfc hnc;obtain⟨ng,hng⟩ : ∃ng,ng=t.globals.length:=⟨_,rfl⟩;go_enter func128,ntmps128;go_wp2_with fail;go_loopw [7] (λi wr=>∃k:Nat,k<=ns.length/\i=.int .i64 k/\(∀j (hj:j<ns.length),j<k->nodeE t scope ns[j]=0)/\Below (w.heap.size+1) (w.alloc (.cells #[.slice ag t.globals.length cg,.slice af t.funcs.length cf] 34)) wr) (λi _=>ns.length-(RowKit.intOf i).toNat)
 case atStart=>exact⟨0,y_,rfl,λj hj h=>absurd h (Nat.not_lt_zero _),r_⟩
 case round=>
  obtain⟨k,hk,rfl,hz,hB⟩:=hrel;have HN:=hide hz;clear hz;have hBw:=one_below hB;obtain⟨x0,x1⟩:=box2 hB;have hxl:w.heap.size<wr.heap.size:=by have:=hB.size;simp at this;omega
  by_cases hlt:k<ns.length
  ·obtain⟨b,off,rfl,hc⟩:=HNC o_;obtain⟨d0,d1,d2⟩:=(hc.below hBw) k hlt;have HZ:=hide λ(h:nodeE t scope ns[k]≠0)=>exprE_at hlt (λj hj=>HN j o_ hj) h;have HX:Hid (nodeE t scope ns[k]=0->∀j (hj:j<ns.length),j<k+1->nodeE t scope ns[j]=0):=λh j hj hjk=>by
    by_cases e:j=k
    ·subst e;exact h
    ·exact HN j hj o_
   generalize ns[k]=n at d0 d1 d2 HZ HX;obtain⟨kd,vl,nm⟩:=n;simp only at d0 d1 d2;have hA:Bl w (wr.alloc (.cells #[.int .i64 kd,.int .i64 vl,.string nm] 134)):=hBw.trans ((bel_a _ _).mono hBw.size);by_cases hk23:kd=2∨kd=3
   ·have HE:Hid (nodeE t scope ⟨kd,vl,nm⟩=useE t.globals scope nm (decide (kd=3))):=by
     show _=_;unfold nodeE;simp only;rw[if_pos hk23]
    rcases hk23 with rfl|rfl;all_goals
     go_wp2_with fail;refine (l3use_any t.globals scope _ _ _ nm _ _ hgl hsl ⟨_,_,_,rfl⟩ (HG.o.below hA) (HS.o.below hA)).mono ?_;rintro e w2 ⟨rfl,hb2⟩;simp only[World.size_alloc] at hb2;obtain⟨y0,y1,y2⟩:=box3K hb2;have hB2:Below (w.heap.size+1) (w.alloc (.cells #[.slice ag t.globals.length cg,.slice af t.funcs.length cf] 34)) w2:=hB.trans ((one_below hb2).mono o_);clear d0 d1 d2 x0 x1 hA;first
      | (have HE2:Hid (nodeE t scope ⟨2,vl,nm⟩=useE t.globals scope nm false):=HE;clear HE;generalize useE t.globals scope nm false=z at HE2 ⊢)
      | (have HE2:Hid (nodeE t scope ⟨3,vl,nm⟩=useE t.globals scope nm true):=HE;clear HE;generalize useE t.globals scope nm true=z at HE2 ⊢)
     by_cases hz:z=0
     ·subst hz;go_wp2_with fail;go_roundw
      case rel=>exact⟨k+1,by omega,by go_num,HX HE2,hB2⟩
      case measure=>simp[RowKit.intOf];omega
     ·go_wp2;go_ret;exact⟨ret_int (by rw[HZ.o (by rw[HE2.o];exact hz),HE2]),one_below hB2⟩
   ·by_cases hk4:kd=4
    ·subst hk4;go_wp2_with fail;refine (l3func_any t.funcs _ _ nm _ hfl (HF.o.below hA)).mono ?_;rintro e w2 ⟨rfl,hb2⟩;simp only[World.size_alloc] at hb2;obtain⟨y0,y1,y2⟩:=box3K hb2;have hB2:Below (w.heap.size+1) (w.alloc (.cells #[.slice ag t.globals.length cg,.slice af t.funcs.length cf] 34)) w2:=hB.trans ((one_below hb2).mono o_);clear d0 d1 d2 x0 x1 hA;obtain⟨x0,x1⟩:=box2 hB2;cases hfn:fnum t.funcs nm with
     | none=>
      have HE:Hid (nodeE t scope ⟨4,vl,nm⟩=4):=nodeE_nocall hfn;rw[fnumI_none hfn];go_wp2;go_ret;exact⟨ret_int (by rw[HZ.o (by rw[HE.o];omega),HE]),one_below hB2⟩
     | some i=>
      have hi:=fnum_lt hfn;have HE:Hid (nodeE t scope ⟨4,vl,nm⟩=if ((t.funcs[i].params.length:Nat):Int)=vl then 0 else 6):=nodeE_call hfn hi;rw[fnumI_some hfn];clear hfn;obtain⟨bf,of,rfl,hfc⟩:=HFC o_;obtain⟨vp,vb,⟨f0,f1,f2⟩,⟨ap,cp,rfl,-⟩,-⟩:=(hfc.below (one_below hB2)) i hi;generalize t.funcs[i].params.length=np at HE f1;by_cases hv:(np:Int)=vl
      ·have HE2:Hid (nodeE t scope ⟨4,vl,nm⟩=0):=by show _=_;rw[HE.o,if_pos hv]
       clear HE;subst hv;go_wp2_with fail;go_region
       go_wp2_with fail;go_roundw
       case rel=>exact⟨k+1,by omega,by go_num,HX HE2,hB2.drew⟩
       case measure=>simp[RowKit.intOf];omega
      ·have HE2:Hid (nodeE t scope ⟨4,vl,nm⟩=6):=by show _=_;rw[HE.o,if_neg hv]
       go_wp2_with fail;go_region
       go_wp2;go_ret;exact⟨ret_int (by rw[HZ.o (by rw[HE2.o];omega),HE2]),one_below hB2.drew⟩
    ·have HE:Hid (nodeE t scope ⟨kd,vl,nm⟩=0):=by
      show _=_;unfold nodeE;simp only;rw[if_neg hk23,if_neg hk4]
     have h2 : ¬kd=2:=λh=>hk23 (.inl h);have h3 : ¬kd=3:=λh=>hk23 (.inr h);have b2:(kd == 2)=false:=by simpa using h2
     have b3:(kd == 3)=false:=by simpa using h3
     have b4:(kd == 4)=false:=by simpa using hk4
     clear hk23;go_wp2_with fail;go_roundw
     case rel=>exact⟨k+1,by omega,by go_num,HX HE,hB.trans ((bel_a _ _).mono o_)⟩
     case measure=>simp[RowKit.intOf];omega
  ·have HR:Hid (exprE t scope ns=0):=exprE_zero (λj hj=>HN j hj o_);go_wp2;go_ret;exact⟨ret_int HR.o.symm,hBw⟩
end
end Go.Proofs.YtffnkkpmlplfeaaGreatDoor
