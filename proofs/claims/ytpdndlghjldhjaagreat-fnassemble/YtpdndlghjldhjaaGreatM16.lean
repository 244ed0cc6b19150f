import Derived.Test.YtpdndlghjldhjaaGreatM15
import Derived.Deep.RegionHeldLaw
import Derived.Deep.RegionHeld3
set_option linter.unusedSectionVars false
variable [Inhabited Go.Proofs.YtpdndlghjldhjaaGreat.Pick]
namespace Go.Proofs.YtpdndlghjldhjaaGreat
set_option linter.unusedVariables false
set_option linter.unusedSimpArgs false
set_option maxRecDepth 100000
set_option maxHeartbeats 16000000
section
open Go.RowKit
theorem infoA_i64:(Tryz.prog.info? 2).map (fun i=>(i.zero,i.size,i.bytes))=some (some (.int .i64 0),1,8):=by kernel_rfl
theorem info_int:(Tryz.prog.info? 3).map (fun i=>(i.zero,i.size,i.bytes))=some (some (.int .i64 0),1,8):=by kernel_rfl
theorem infoA_bool:(Tryz.prog.info? 4).map (fun i=>(i.zero,i.size,i.bytes))=some (some (.bool false),1,1):=by kernel_rfl
def ORow (B:Nat) (t:TypeId) (w:World) (v:Value) (xs:List Value):Prop:=w.ownsRow B t 1 v xs.length xs
theorem ORow.shape {B:Nat} {t:TypeId} {w:World} {v:Value} {xs:List Value} (h:ORow B t w v xs) : ∃a c,v = .slice a xs.length c:=by
 rcases h.2 with ⟨rfl,hz⟩ | ⟨g,cap,cur,rfl,_⟩
 ·exact ⟨none,0,by rw [hz]⟩
 ·exact ⟨_,cap,rfl⟩
theorem ORow.below {B:Nat} {t:TypeId} {w w':World} {v:Value} {xs:List Value} (h:ORow B t w v xs) (hb:Below w.heap.size w w'):ORow B t w' v xs:=by
 obtain ⟨g1,g2⟩:=h
 refine ⟨g1,?_⟩
 rcases g2 with g2 | ⟨g,cap,cur,rfl,g3,g4,g5⟩
 ·exact .inl g2
 ·refine .inr ⟨g,cap,cur,rfl,g3,?_,g5⟩
  rw [hb.block g (Array.getElem?_eq_some_iff.1 g4).1]
  exact g4
theorem ORow.base {B B':Nat} {t:TypeId} {w:World} {v:Value} {xs:List Value} (h:ORow B t w v xs) (hb:B'<=B):ORow B' t w v xs:=by
 obtain ⟨g1,g2⟩:=h
 refine ⟨g1,?_⟩
 rcases g2 with g2 | ⟨g,cap,cur,rfl,g3,g4⟩
 ·exact .inl g2
 ·exact .inr ⟨g,cap,cur,rfl,Nat.le_trans hb g3,g4⟩
theorem ORow.at {B:Nat} {t:TypeId} {w:World} {v:Value} {xs:List Value} (h:ORow B t w v xs) (hp:0<xs.length) : ∃g c,v = .slice (some ⟨g,0,none⟩) xs.length c/\B<=g/\g<w.heap.size/\∀j u,xs[j]? = some u->w.cell? ⟨g,j,none⟩=some u/\w.frozen? ⟨g,j,none⟩=false:=by
 have h0:=h
 rcases h.2 with ⟨_,hz⟩ | ⟨g,cap,cur,rfl,hbg,_⟩
 ·omega
 ·refine ⟨g,cap,rfl,hbg,(World.ownsRow.lt h0 g rfl).2,fun j u hj=>⟨?_,World.ownsRow.frozenAt h0 j⟩⟩
  have:=World.ownsRow.cells h0 (g:=g) rfl j u hj
  rw [addr_add] at this
  exact this
theorem orow_lit (W:World) (B:Nat) (t:TypeId) (hB:B<=W.heap.size):ORow B t (W.alloc (.cells #[] t)) (.slice (some ⟨W.heap.size,0,none⟩) 0 0) []:=World.ownsRow_lit W #[] 0 hB (by decide) rfl
theorem orow_lit1 (W:World) (B:Nat) (t:TypeId) (x:Value) (hB:B<=W.heap.size):ORow B t (W.alloc (.cells #[x] t)) (.slice (some ⟨W.heap.size,0,none⟩) 1 1) [x]:=World.ownsRow_lit W #[x] 1 hB (by decide) rfl
theorem lit1 (W:World) (t:TypeId) (x:Value) : ∀j u,[x][j]? = some u->(W.alloc (.cells #[x] t)).cell? ((⟨W.heap.size,0,none⟩:Addr).add j)=some u:=by
 intro j u hj
 rw [addr_add,World.cell?_alloc_at _ _ _ _ rfl]
 simpa using hj
section
variable {P:Program} {w:World}
theorem wpList_app1 {ops:Array Oper} {rest:List Oper} {o:Oper} {a:Act} {Q:Exit->Act->World->Prop} (hgd:o.guard=none) (s x:Operand) (t:TypeId)
  (ho:o.op = .call {callee:=.builtin .append,args:=#[s,x],argTypes:=#[t,t]})
  (base:Nat) (e:TypeId) (i:TypeInfo) (z:Value) (bytes:Nat) (ht:P.underlying t=some (.slice e)) (hi:P.info? e=some i) (hz:i.zero=some z)
  (hsize:i.size=1) (hby:i.bytes=bytes) (hzs:z.cells.size=1)
  (v:Value) (xs:List Value) (hs:a.eval s=v) (hown:ORow base e w v xs) (ad:Addr) (y:Value) (hx:a.eval x = .slice (some ad) 1 1) (hnews : ∀j u,[y][j]? = some u->w.cell? (ad.add j)=some u) (h1:y.oneCell'=true)
  (hm:xs.length+1<=10000000) (hbb:bytes<=1000) (hbase:base<=w.heap.size)
  (h : ∀v' w',ORow base e w' v' (xs++[y])->w.grownBy w' v.ownBlock->(∀k,v'.ownBlock=some k->v.ownBlock=some k∨w.heap.size<=k)->wpList P ops Q rest (a.put o.dst v') w'):wpList P ops Q (o::rest) a w:=
 wpList_appF hgd s x t ho base e i z 1 bytes ht hi hz hsize hby hzs (by decide) v xs.length xs hs hown ad 1 1 [y] hx rfl hnews (by intro u hu;simp at hu;rw [hu];exact h1) hm hbb hbase (fun v' w' a1 a2 a3=>h v' w' (by show w'.ownsRow _ _ _ _ _ _;rw [l_a];exact a1) a2 a3)
end
def Bls (w:World) (v:Value) (lg:List Bool):Prop:=∃a cap,v = .slice a lg.length cap/\(0<lg.length->∃b,a=some ⟨b,0,none⟩/\∀i (h:i<lg.length),w.cell? ⟨b,i,none⟩=some (.bool lg[i]))
theorem Bls.below {w w':World} {v:Value} {lg:List Bool} (h:Bls w v lg) (hb:Below w.heap.size w w'):Bls w' v lg:=by
 obtain ⟨a,cap,rfl,h⟩:=h
 refine ⟨a,cap,rfl,fun h0 => ?_⟩
 obtain ⟨b,rfl,hc⟩:=h h0
 exact ⟨b,rfl,fun j hj=>(hb.cell (p:=⟨b,j,none⟩) (World.block_lt_of_cell? _ _ (hc j hj))).trans (hc j hj)⟩
def szK (its:List It) (lg:List Bool) (k:Nat):List Value:=(List.range k).map (fun i=>Value.int .i64 ((szB (its.getD i it0) (lg.getD i false):Nat):Int))
theorem szK_succ (its:List It) (lg:List Bool) (k:Nat):szK its lg (k+1)=szK its lg k++[.int .i64 ((szB (its.getD k it0) (lg.getD k false):Nat):Int)]:=by simp [szK,List.range_succ]
theorem szK_len (its:List It) (lg:List Bool) (k:Nat):(szK its lg k).length=k:=by simp [szK]
theorem szK_at (its:List It) (lg:List Bool) (k i:Nat) (h:i<k):(szK its lg k)[i]? = some (.int .i64 ((szB (its.getD i it0) (lg.getD i false):Nat):Int)):=by simp [szK,h]
def plK (its:List It) (lg:List Bool) (k:Nat):List Value:=(List.range k).map (fun i=>Value.int .i64 (4*((plN its lg i:Nat):Int)))
theorem plK_succ (its:List It) (lg:List Bool) (k:Nat):plK its lg (k+1)=plK its lg k++[.int .i64 (4*((plN its lg k:Nat):Int))]:=by simp [plK,List.range_succ]
theorem plK_len (its:List It) (lg:List Bool) (k:Nat):(plK its lg k).length=k:=by simp [plK]
theorem plK_at (its:List It) (lg:List Bool) (k i:Nat) (h:i<k):(plK its lg k)[i]? = some (.int .i64 (4*((plN its lg i:Nat):Int))):=by simp [plK,h]
theorem sizes_any (its:List It) (lg:List Bool) (v u:Value) (w:World) (hl:its.length<=20000) (hlg:lg.length=its.length) (hbr : ∀i,i<its.length->lg.getD i false=true->(its.getD i it0).kind=3) (hv:Items w v its) (hu:Bls w u lg) :
  Calls Tryz.prog 19 #[v,u] w fun e w'=>∃x,e = .returned x/\ORow w.heap.size 2 w' x (szK its lg its.length)/\Below w.heap.size w w':=by
 obtain ⟨a,cap,rfl,-,-,hc⟩:=hv
 have HC:=hide hc
 obtain ⟨al,cl,rfl,hcl⟩:=hu
 have HCL:=hide hcl
 have HBr:=hide hbr
 obtain ⟨i0,hi,hz0,hz1,hz2⟩:=info_parts infoA_i64
 have HLg:=hide hlg
 rw [hlg]
 clear hc hcl hbr hlg
 go_enter Tryz.func19,Tryz.ntmps19
 go_wp2_with fail
 go_loopw [5,6] (fun o i wr=>∃k:Nat,k<=its.length/\i = .int .i64 k/\ORow w.heap.size 2 wr o (szK its lg k)/\Bl w wr) (fun _ i _=>its.length-(RowKit.intOf i).toNat)
 case atStart=>exact ⟨0,Nat.zero_le _,rfl,orow_lit w _ _ (Nat.le_refl _),(Below.refl _ _).alloc (Nat.le_refl _) _⟩
 case round=>
  obtain ⟨k,hk,rfl,hO,hB⟩:=hrel
  obtain ⟨ao,co,rfl⟩:=hO.shape
  have HO:=hide hO
  clear hO
  by_cases hlt:k<its.length
  ·obtain ⟨b,off,rfl,hC⟩:=HC.out (by omega)
   obtain ⟨bl,rfl,hL⟩:=HCL.out (by have:=HLg.out;omega)
   obtain ⟨c0,-⟩:=(hC.below hB) k hlt
   have l0:=(hB.cell (p:=⟨bl,k,none⟩) (World.block_lt_of_cell? _ _ (hL k (by have:=HLg.out;omega)))).trans (hL k (by have:=HLg.out;omega))
   have HGt:Hid (its.getD k it0=its[k]):=by show _=_;simp [List.getD,hlt]
   have HLt:Hid (lg.getD k false=lg[k]'(by have:=HLg.out;omega)):=by
    have:k<lg.length:=by have:=HLg.out;omega
    show _=_
    simp [List.getD,this]
   have hbk:=HBr.out k hlt
   rw [HGt.out,HLt.out] at hbk
   have HE:Hid (szK its lg (k+1)=szK its lg k++[.int .i64 ((szB its[k] (lg[k]'(by have:=HLg.out;omega)):Nat):Int)]):=by show _=_;rw [szK_succ,HGt.out,HLt.out]
   have hszb:szB its[k] (lg[k]'(by have:=HLg.out;omega))=if its[k].kind=2 then 0 else if lg[k]'(by have:=HLg.out;omega) then 2 else 1:=rfl
   clear hC hL HGt HLt
   generalize szB its[k] (lg[k]'(by have:=HLg.out;omega))=z at HE hszb
   generalize its[k].kind=kd at c0 hbk hszb
   generalize lg[k]'(by have:=HLg.out;omega)=lk at l0 hbk hszb
   have hsz:=hB.size
   cases lk
   ·by_cases h2:kd=2
    ·subst h2
     obtain rfl:z=0:=by rw [hszb];rfl
     clear hszb hbk
     go_wp2_with (at_builtin;refine wpList_app1 rfl _ _ _ rfl w.heap.size 2 i0 _ 8 Tryz.underlying27 hi hz0 hz1 hz2 rfl _ (szK its lg k) rfl (HO.out.below (bel_a _ _)) ⟨wr.heap.size,0,none⟩ (.int .i64 0) rfl (lit1 _ _ _) rfl (by rw [szK_len];omega) (by decide) (by simp;omega) ?_)
     intro v1 w1 ho1 hg1 hf1
     have HO1:Hid (ORow w.heap.size 2 w1 v1 (szK its lg (k+1))):=by show ORow _ _ _ _ _;rw [HE.out];exact ho1
     have hB1:Bl w w1:=(hB.alloc hsz _).grown hg1 (by simp;omega) (fun x hx=>(World.ownsRow.lt HO.out x hx).1)
     obtain ⟨a1,c1,rfl⟩:=HO1.out.shape
     clear ho1 hg1 hf1
     go_wp2_with fail
     go_roundw
     case rel=>exact ⟨k+1,by omega,by go_num,HO1.out,hB1⟩
     case measure=>simp [RowKit.intOf];omega
    ·obtain rfl:z=1:=by rw [hszb,if_neg h2];rfl
     clear hszb hbk
     go_wp2_with (at_builtin;refine wpList_app1 rfl _ _ _ rfl w.heap.size 2 i0 _ 8 Tryz.underlying27 hi hz0 hz1 hz2 rfl _ (szK its lg k) rfl (HO.out.below (bel_a _ _)) ⟨wr.heap.size,0,none⟩ (.int .i64 1) rfl (lit1 _ _ _) rfl (by rw [szK_len];omega) (by decide) (by simp;omega) ?_)
     intro v1 w1 ho1 hg1 hf1
     have HO1:Hid (ORow w.heap.size 2 w1 v1 (szK its lg (k+1))):=by show ORow _ _ _ _ _;rw [HE.out];exact ho1
     have hB1:Bl w w1:=(hB.alloc hsz _).grown hg1 (by simp;omega) (fun x hx=>(World.ownsRow.lt HO.out x hx).1)
     obtain ⟨a1,c1,rfl⟩:=HO1.out.shape
     clear ho1 hg1 hf1
     go_wp2_with fail
     go_roundw
     case rel=>exact ⟨k+1,by omega,by go_num,HO1.out,hB1⟩
     case measure=>simp [RowKit.intOf];omega
   ·have h3:=hbk rfl
    subst h3
    obtain rfl:z=2:=by rw [hszb];rfl
    clear hszb hbk
    go_wp2_with (at_builtin;refine wpList_app1 rfl _ _ _ rfl w.heap.size 2 i0 _ 8 Tryz.underlying27 hi hz0 hz1 hz2 rfl _ (szK its lg k) rfl (HO.out.below (bel_a _ _)) ⟨wr.heap.size,0,none⟩ (.int .i64 2) rfl (lit1 _ _ _) rfl (by rw [szK_len];omega) (by decide) (by simp;omega) ?_)
    intro v1 w1 ho1 hg1 hf1
    have HO1:Hid (ORow w.heap.size 2 w1 v1 (szK its lg (k+1))):=by show ORow _ _ _ _ _;rw [HE.out];exact ho1
    have hB1:Bl w w1:=(hB.alloc hsz _).grown hg1 (by simp;omega) (fun x hx=>(World.ownsRow.lt HO.out x hx).1)
    obtain ⟨a1,c1,rfl⟩:=HO1.out.shape
    clear ho1 hg1 hf1
    go_wp2_with fail
    go_roundw
    case rel=>exact ⟨k+1,by omega,by go_num,HO1.out,hB1⟩
    case measure=>simp [RowKit.intOf];omega
  ·obtain rfl:k=its.length:=by omega
   go_wp2_with fail
   go_ret
   exact ⟨_,rfl,HO.out,hB⟩
end
section
open Go.RowKit
theorem wrapA64 (x:Int):IntKind.i64.wrap x=(x+9223372036854775808) % 18446744073709551616-9223372036854775808:=by
 simp [IntKind.wrap,IntKind.bits,IntKind.signed]
 omega
theorem wrap_id (x:Int) (h : -1000000000<=x/\x<=1000000000):IntKind.i64.wrap x=x:=by
 rw [wrapA64,Int.emod_eq_of_lt (by omega) (by omega)]
 omega
section
variable {P:Program} {w:World}
theorem app_old {base:Nat} {t ty e:TypeId} {i:TypeInfo} {z:Value} {bytes:Nat} (ht:P.underlying t=some (.slice e)) (hi:P.info? e=some i) (hz:i.zero=some z)
  (hsize:i.size=1) (hby:i.bytes=bytes) {v v':Value} {w':World} {xs:List Value} (hown:ORow base e w v xs) {ad:Addr} {y:Value} (hnews : ∀j u,[y][j]? = some u->w.cell? (ad.add j)=some u) (h1:y.oneCell'=true)
  (hm:xs.length+1<=10000000) (hbb:bytes<=1000) (hr:(Builtin.append_ #[t,t] ty #[v,.slice (some ad) 1 1]).run P w = .ok v' w') (ho:ORow base e w' v' (xs++[y])) :
  ∀g,v.ownBlock=some g->∀j u,xs[j]? = some u->w'.cell? ⟨g,j,none⟩=some u:=by
 intro g hgv j u hj
 have hown0:=hown
 rcases hown.2 with ⟨rfl,hn⟩ | ⟨g',cap,cur,rfl,hbg,hg,hnc,hcm,hcs,htake⟩
 ·cases hgv
 ·simp only [Value.ownBlock,Option.some.injEq] at hgv
  subst hgv
  have hbytes:(xs.length+1)*bytes<=140737488355328:=by
   have:(xs.length+1)*bytes<=10000000*1000:=Nat.mul_le_mul hm hbb
   omega
  by_cases hroom:xs.length+1<=cap
  ·have hfit:xs.length*i.size + [y].length<=cur.size:=by
    rw [hsize,hcs];simp;omega
   have hr2:=run_append_room (P:=P) w t ty e i ht hi g' xs.length cap cur hg ad 1 1 [y] (by rw [hsize];rfl) hnews (by intro u hu;simp at hu;rw [hu];exact h1) hroom hfit
   rw [hr] at hr2
   simp only [Result.ok.injEq] at hr2
   obtain ⟨rfl,-⟩:=hr2
   have:=World.ownsRow.cells (v:=.slice (some ⟨g',0,none⟩) (xs.length+1) cap) (g:=g') ho rfl j u (by rw [List.getElem?_append_left (List.getElem?_eq_some_iff.1 hj).1];exact hj)
   rw [addr_add] at this
   exact this
  ·have holds : ∀j u,xs[j]? = some u->w.cell? ((⟨g',0,none⟩:Addr).add j)=some u:=World.ownsRow.cells hown0 (g:=g') rfl
   have hr2:=run_append_grow (P:=P) w t ty e i z ht hi hz ⟨g',0,none⟩ xs.length cap xs (by rw [hsize];simp) holds ad 1 1 [y] (by rw [hsize];rfl) hnews (by omega) (by omega) (by rw [hby];exact growslice_fits (by omega) (by omega))
   rw [hr] at hr2
   simp only [Result.ok.injEq] at hr2
   obtain ⟨-,rfl⟩:=hr2
   have hc:=holds j u hj
   rw [addr_add] at hc
   have hb:Bl w (w.drew.alloc (.cells (xs.toArray++[y].toArray++Builtin.zeroCells z.cells (grownCap w (xs.length+1) cap e-(xs.length+1))) e)):=((Below.refl _ _).drew).alloc (Nat.le_refl _) _
   exact (hb.cell (p:=⟨g',j,none⟩) (World.block_lt_of_cell? _ _ hc)).trans hc
theorem step_app2 {ops:Array Oper} {o:Oper} {a:Act} {K:Act->World->Prop} {Q:Exit->Act->World->Prop} {E:Prop} (hgd:o.guard=none) (s x:Operand) (t:TypeId)
  (ho:o.op = .call {callee:=.builtin .append,args:=#[s,x],argTypes:=#[t,t]})
  (base:Nat) (e:TypeId) (i:TypeInfo) (z:Value) (bytes:Nat) (ht:P.underlying t=some (.slice e)) (hi:P.info? e=some i) (hz:i.zero=some z)
  (hsize:i.size=1) (hby:i.bytes=bytes) (hzs:z.cells.size=1)
  (v:Value) (xs:List Value) (hs:a.eval s=v) (hown:ORow base e w v xs) (ad:Addr) (y:Value) (hx:a.eval x = .slice (some ad) 1 1) (hnews : ∀j u,[y][j]? = some u->w.cell? (ad.add j)=some u) (h1:y.oneCell'=true)
  (hm:xs.length+1<=10000000) (hbb:bytes<=1000) (hbase:base<=w.heap.size)
  (h : ∀v' w',ORow base e w' v' (xs++[y])->w.grownBy w' v.ownBlock->(∀g,v.ownBlock=some g->∀j u,xs[j]? = some u->w'.cell? ⟨g,j,none⟩=some u)->K (a.put o.dst v') w') :
  if Region.wanted o (yielded ops a.tmps)=true then Oper.wp P o a w K Q else E:=by
 have hw:Region.wanted o (yielded ops a.tmps)=true:=by simp [Region.wanted,hgd]
 rw [if_pos hw]
 obtain ⟨v',w',hr,h2,h3,h4⟩:=app_freshG (P:=P) (w:=w) base t o.type e i z 1 bytes ht hi hz hsize hby hzs (by decide) v xs.length xs hown ad 1 1 [y] rfl hnews (by intro u hu;simp at hu;rw [hu];exact h1) hm hbb hbase
 have h2':ORow base e w' v' (xs++[y]):=by show w'.ownsRow _ _ _ _ _ _;rw [l_a];exact h2
 have h5:=app_old ht hi hz hsize hby hown hnews h1 hm hbb hr h2'
 unfold Oper.wp execOp
 simp only [ho,resolve,invoke,builtin,Sem.run_bind,Sem.run_pure,Result.andThen_ok,List.map_toArray,List.map_cons,List.map_nil,hs,hx,hr]
 exact h v' w' h2' h3 h5
end
theorem places_any (B n:Nat) (its:List It) (lg:List Bool) (v:Value) (w:World) (hl:n<=20000) (hn:its.length=n) (hv:ORow B 2 w v (szK its lg n)) :
  Calls Tryz.prog 18 #[v] w fun e w'=>∃x,e = .returned x/\ORow w.heap.size 2 w' x (plK its lg (n+1))/\Below w.heap.size w w':=by
 have HV:Hid (ORow B 2 w v (szK its lg n)):=hv
 obtain ⟨av,cv,rfl⟩:=hv.shape
 rw [szK_len] at HV ⊢
 obtain ⟨i0,hi,hz0,hz1,hz2⟩:=info_parts infoA_i64
 clear hv hn
 go_enter Tryz.func18,Tryz.ntmps18
 go_wp2_with fail
 go_loopw [3,4] (fun o i wr=>∃k:Nat,k<=n/\i = .int .i64 k/\ORow w.heap.size 2 wr o (plK its lg (k+1))/\Bl w wr) (fun _ i _=>n-(RowKit.intOf i).toNat)
 case atStart=>exact ⟨0,Nat.zero_le _,rfl,orow_lit1 w _ _ _ (Nat.le_refl _),(Below.refl _ _).alloc (Nat.le_refl _) _⟩
 case round=>
  obtain ⟨k,hk,rfl,hO,hB⟩:=hrel
  have hO':=hO
  have hpos:0<(plK its lg (k+1)).length:=by rw [plK_len];omega
  obtain ⟨go,co,rfl,hgo1,hgo2,hcell⟩:=hO.at hpos
  have HO:Hid (ORow w.heap.size 2 wr (.slice (some ⟨go,0,none⟩) (plK its lg (k+1)).length co) (plK its lg (k+1))):=hO'
  have o0:=(hcell k _ (plK_at its lg (k+1) k (by omega))).1
  have hpl:=plN_le its lg k
  have HLn:Hid ((plK its lg (k+1)).length=k+1):=plK_len _ _ _
  have hsz:=hB.size
  clear hO hO' hcell hpos
  by_cases hlt:k<n
  ·have HVw:Hid (ORow B 2 wr (.slice av n cv) (szK its lg n)):=HV.out.below hB
   obtain ⟨gv,cv',he,hgv1,hgv2,hvc⟩:=HVw.out.at (by rw [szK_len];omega)
   rw [szK_len] at he
   simp only [Value.slice.injEq,true_and] at he
   obtain ⟨rfl,rfl⟩:=he
   have s0:=(hvc k _ (szK_at its lg n k hlt)).1
   have hgvw:gv<w.heap.size:=by
    obtain ⟨g',c',he',_,hlt',_⟩:=HV.out.at (by rw [szK_len];omega)
    simp only [Value.slice.injEq,Option.some.injEq,Addr.mk.injEq,and_true] at he'
    omega
   have HPa:Hid ((plK its lg (k+1))[k]? = some (.int .i64 (4*((plN its lg k:Nat):Int)))):=plK_at its lg (k+1) k (by omega)
   have HPs:Hid (plN its lg (k+1)=plN its lg k+szB (its.getD k it0) (lg.getD k false)):=rfl
   have HPk:Hid (plK its lg (k+1+1)=plK its lg (k+1)++[.int .i64 (4*((plN its lg (k+1):Nat):Int))]):=plK_succ its lg (k+1)
   have hs2:szB (its.getD k it0) (lg.getD k false)<=2:=by
    unfold szB
    split
    ·omega
    ·split <;> omega
   clear hvc
   generalize szB (its.getD k it0) (lg.getD k false)=sb at s0 HPs hs2
   generalize plN its lg k=pk at o0 HPs hpl HPa
   obtain ⟨LL,hLL⟩ : ∃LL,LL=(plK its lg (k+1)).length:=⟨_,rfl⟩
   have HLL:Hid (LL=k+1):=by show _=_;rw [hLL];exact HLn.out
   rw [<-hLL] at HO ⊢
   have hLk:k<LL:=by have:=HLL.out;omega
   have hLm:LL<=20001:=by have:=HLL.out;omega
   have HOa:Hid (∀o,ORow w.heap.size 2 (wr.drew.alloc o) (.slice (some ⟨go,0,none⟩) LL co) (plK its lg (k+1))):=fun o=>HO.out.below (((Below.refl _ _).drew).alloc (Nat.le_refl _) o)
   have HBa:Hid (∀o,Bl w (wr.drew.alloc o)):=fun o=>(hB.drew).alloc hsz o
   have HBx:Hid (∀o,Bl wr (wr.drew.alloc o)):=fun o=>((Below.refl _ _).drew).alloc (Nat.le_refl _) o
   have hgvr:gv<wr.heap.size:=by omega
   have hgne:some gv≠(Value.slice (some ⟨go,0,none⟩) LL co).ownBlock:=by
    intro h
    simp only [Value.ownBlock,Option.some.injEq] at h
    omega
   have hne0:=World.new_ne wr ⟨go,k,none⟩ o0
   have hne1:=World.new_ne wr ⟨gv,k,none⟩ s0
   have hxl:(plK its lg (k+1)).length+1<=10000000:=by have:=HLn.out;omega
   have e4:(4:Int)*(pk:Int)+4*(sb:Int)=4*((pk+sb:Nat):Int):=by omega
   clear hLL hgv1 hgv2
   go_wp2_with fail
   go_region_held_law (fun W=>W.cell? ⟨go,k,none⟩=some (.int .i64 (4*(pk:Int)))/\W.cell? ⟨gv,k,none⟩=some (.int .i64 (sb:Int))) (first | go_keep | (go_split_ands;exact ⟨y0,y1⟩))
    (first
    | (refine step_app2 (by rfl) _ _ 27 (by rfl) w.heap.size 2 i0 _ 8 Tryz.underlying27 hi hz0 hz1 hz2 rfl (.slice (some ⟨go,0,none⟩) LL co) (plK its lg (k+1)) (by rfl) (HOa.out _) ⟨wr.heap.size,0,none⟩ _ (by rfl) (lit1 wr.drew _ _) rfl hxl (by decide) (HBa.out _).size ?_;intro v1 w1 ho1 hg1 hk1;have y0:=hk1 go rfl k _ HPa.out;have y1:=hg1.cell (((HBx.out _).cell (p:=⟨gv,k,none⟩) hgvr).trans s0) hgne))
   have hwr:IntKind.i64.wrap (4*(pk:Int)+IntKind.i64.wrap (4*(sb:Int)))=4*((pk+sb:Nat):Int):=by rw [wrap_id (4*(sb:Int)) (by omega),wrap_id _ (by omega)];omega
   rw [hwr] at ho1
   have HO1:Hid (ORow w.heap.size 2 w1 v1 (plK its lg (k+1+1))):=by show ORow _ _ _ _ _;rw [HPk.out,HPs.out];exact ho1
   have hB1:Bl w w1:=((hB.alloc hsz _).drew).grown hg1 (by simp;omega) (fun x hx=>(World.ownsRow.lt HO.out x hx).1)
   obtain ⟨a1,c1,rfl⟩:=HO1.out.shape
   clear ho1 hg1 hk1 y0 y1
   go_wp2_with fail
   go_roundw
   case rel=>exact ⟨k+1,by omega,by go_num,HO1.out,hB1⟩
   case measure=>simp [RowKit.intOf];omega
  ·have hkn:k=n:=by omega
   go_wp2_with fail
   go_ret
   exact ⟨_,rfl,by rw [<-hkn];exact HO.out,hB⟩
end
section
open Go.RowKit
def tgZ (its:List It) (i:Nat):Int:=if (its.getD i it0).kind=1 then 0 else findZ its (its.getD i it0).label
def tgL (its:List It) (k:Nat):List Value:=(List.range k).map (fun i=>Value.int .i64 (tgZ its i))
theorem tgL_succ (its:List It) (k:Nat):tgL its (k+1)=tgL its k++[.int .i64 (tgZ its k)]:=by simp [tgL,List.range_succ]
theorem tgL_len (its:List It) (k:Nat):(tgL its k).length=k:=by simp [tgL]
theorem tgL_at (its:List It) (k i:Nat) (h:i<k):(tgL its k)[i]? = some (.int .i64 (tgZ its i)):=by simp [tgL,h]
theorem findZ_pos {its:List It} {lab:Int}:0<=findZ its lab↔(posL its lab).length=1:=by
 unfold findZ
 match posL its lab with
 | []=>simp
 | [k]=>simp
 | a::b::r=>simp
theorem tgZ_tgt {its:List It} (h:Linked its) {i:Nat} (hi:i<its.length):tgZ its i=(tgt its i:Int):=by
 unfold tgZ tgt
 by_cases h1:(its.getD i it0).kind=1
 ·rw [if_pos h1,if_pos h1];rfl
 ·rw [if_neg h1,if_neg h1]
  have:=h i hi h1
  match e:posL its (its.getD i it0).label with
  | []=>rw [e] at this;cases this
  | [k]=>rw [findZ_one e];rfl
  | a::b::r=>rw [e] at this;simp at this
theorem findZ_bd (its:List It) (lab:Int) (hl:its.length<=20000) : -2<=findZ its lab/\findZ its lab<=20000:=by
 unfold findZ
 match e:posL its lab with
 | []=>simp
 | [k]=>
  have:=(posL_mem (its:=its) (lab:=lab) (k:=k) (by rw [e];simp)).1
  simp
  omega
 | a::b::r=>simp
def okK (its:List It) (k:Nat):Prop:=∀i,i<k->(its.getD i it0).kind≠1->0<=findZ its (its.getD i it0).label
theorem targets_any (its:List It) (v:Value) (w:World) (hl:its.length<=20000) (hv:Items w v its) :
  Calls Tryz.prog 17 #[v] w fun e w'=>∃x ok,e = .returned (.tuple #[x,.bool ok])/\ORow w.heap.size 3 w' x (tgL its its.length)/\Below w.heap.size w w'/\(ok=true↔Linked its):=by
 have HV:=hide hv
 obtain ⟨a,cap,rfl,-,-,hc⟩:=hv
 have HC:=hide hc
 obtain ⟨i0,hi,hz0,hz1,hz2⟩:=info_parts info_int
 clear hc
 go_enter Tryz.func17,Tryz.ntmps17
 go_wp2_with fail
 go_loopw [4,5,6] (fun o c i wr=>∃(k:Nat) (ok:Bool),k<=its.length/\i = .int .i64 k/\c = .bool ok/\(ok=true↔okK its k)/\ORow w.heap.size 3 wr o (tgL its k)/\Bl w wr) (fun _ _ i _=>its.length-(RowKit.intOf i).toNat)
 case atStart=>exact ⟨0,true,Nat.zero_le _,rfl,rfl,⟨fun _ i hi=>absurd hi (by omega),fun _=>rfl⟩,orow_lit w _ _ (Nat.le_refl _),(Below.refl _ _).alloc (Nat.le_refl _) _⟩
 case round=>
  obtain ⟨k,ok,hk,rfl,rfl,hok,hO,hB⟩:=hrel
  obtain ⟨ao,co,rfl⟩:=hO.shape
  have HO:=hide hO
  have HOk:=hide hok
  have HLn:Hid ((tgL its k).length=k):=tgL_len its k
  have hsz:=hB.size
  clear hO hok
  by_cases hlt:k<its.length
  ·obtain ⟨b,off,rfl,hC⟩:=HC.out (by omega)
   obtain ⟨c0,-,-,-,-,-,c6⟩:=(hC.below hB) k hlt
   have HGt:Hid (its.getD k it0=its[k]):=by show _=_;simp [List.getD,hlt]
   have HE:=hide (tgL_succ its k)
   have HZ:Hid (tgZ its k=if its[k].kind=1 then 0 else findZ its its[k].label):=by show _=_;unfold tgZ;rw [HGt.out]
   have hxl:(tgL its k).length+1<=10000000:=by have:=HLn.out;omega
   clear hC
   generalize its[k]=x at c0 c6 HGt HZ
   by_cases h1:x.kind=1
   ·rw [h1] at c0
    have HZ0:Hid (tgZ its k=0):=by show _=_;rw [HZ.out,if_pos h1]
    have HOk1:Hid (ok=true↔okK its (k+1)):=by
     refine HOk.out.trans ⟨fun h i hi hki => ?_,fun h i hi hki=>h i (by omega) hki⟩
     by_cases e:i=k
     ·subst e;rw [HGt.out] at hki;exact absurd h1 hki
     ·exact h i (by omega) hki
    clear h1
    go_wp2_with (at_builtin;refine wpList_app1 rfl _ _ _ rfl w.heap.size 3 i0 _ 8 Tryz.underlying60 hi hz0 hz1 hz2 rfl _ (tgL its k) rfl (HO.out.below (bel_a _ _)) ⟨wr.heap.size,0,none⟩ (.int .i64 0) rfl (lit1 _ _ _) rfl hxl (by decide) (by simp;omega) ?_)
    intro v1 w1 ho1 hg1 hf1
    have HO1:Hid (ORow w.heap.size 3 w1 v1 (tgL its (k+1))):=by show ORow _ _ _ _ _;rw [HE.out,HZ0.out];exact ho1
    have hB1:Bl w w1:=(hB.alloc hsz _).grown hg1 (by simp;omega) (fun x hx=>(World.ownsRow.lt HO.out x hx).1)
    obtain ⟨a1,c1,rfl⟩:=HO1.out.shape
    clear ho1 hg1 hf1
    go_wp2_with fail
    go_roundw
    case rel=>exact ⟨k+1,ok,by omega,by go_num,rfl,HOk1.out,HO1.out,hB1⟩
    case measure=>simp [RowKit.intOf];omega
   ·have HZ0:Hid (tgZ its k=findZ its x.label):=by show _=_;rw [HZ.out,if_neg h1]
    have hbd:=findZ_bd its x.label hl
    have HOk1:Hid ((ok && decide (0<=findZ its x.label))=true↔okK its (k+1)):=by
     show _↔_
     rw [Bool.and_eq_true,decide_eq_true_eq,HOk.out]
     constructor
     ·rintro ⟨h,hf⟩ i hi hki
      by_cases e:i=k
      ·subst e;rw [HGt.out];exact hf
      ·exact h i (by omega) hki
     ·intro h
      exact ⟨fun i hi hki=>h i (by omega) hki,by have:=h k (by omega) (by rw [HGt.out];exact h1);rw [HGt.out] at this;exact this⟩
    have HVw:=hide (HV.out.below hB)
    generalize x.kind=kd at c0 h1
    have h1':(kd == 1)=false:=by simpa using h1
    go_wp2_with fail
    refine (find_any its _ x.label wr hl HVw.out).mono ?_
    rintro e w1 ⟨rfl,hw1⟩
    rw [hw1]
    clear hw1
    generalize findZ its x.label=fz at HZ0 hbd HOk1 ⊢
    cases ok
    ·have HOk2:Hid (false=true↔okK its (k+1)):=by have:=HOk1.out;rw [Bool.false_and] at this;exact this
     go_wp2_with (at_builtin;refine wpList_app1 rfl _ _ _ rfl w.heap.size 3 i0 _ 8 Tryz.underlying60 hi hz0 hz1 hz2 rfl _ (tgL its k) rfl (HO.out.below (bel_a _ _)) ⟨wr.heap.size,0,none⟩ (.int .i64 fz) rfl (lit1 _ _ _) rfl hxl (by decide) (by simp;omega) ?_)
     intro v1 w1 ho1 hg1 hf1
     have HO1:Hid (ORow w.heap.size 3 w1 v1 (tgL its (k+1))):=by show ORow _ _ _ _ _;rw [HE.out,HZ0.out];exact ho1
     have hB1:Bl w w1:=(hB.alloc hsz _).grown hg1 (by simp;omega) (fun x hx=>(World.ownsRow.lt HO.out x hx).1)
     obtain ⟨a1,c1,rfl⟩:=HO1.out.shape
     clear ho1 hg1 hf1
     go_wp2_with fail
     go_roundw
     case rel=>exact ⟨k+1,false,by omega,by go_num,rfl,HOk2.out,HO1.out,hB1⟩
     case measure=>simp [RowKit.intOf];omega
    ·by_cases hz:0<=fz
     ·have hd:decide (0<=fz)=true:=decide_eq_true hz
      have HOk2:Hid (true=true↔okK its (k+1)):=by have:=HOk1.out;rw [hd] at this;exact this
      go_wp2_with (at_builtin;refine wpList_app1 rfl _ _ _ rfl w.heap.size 3 i0 _ 8 Tryz.underlying60 hi hz0 hz1 hz2 rfl _ (tgL its k) rfl (HO.out.below (bel_a _ _)) ⟨wr.heap.size,0,none⟩ (.int .i64 fz) rfl (lit1 _ _ _) rfl hxl (by decide) (by simp;omega) ?_)
      intro v1 w1 ho1 hg1 hf1
      have HO1:Hid (ORow w.heap.size 3 w1 v1 (tgL its (k+1))):=by show ORow _ _ _ _ _;rw [HE.out,HZ0.out];exact ho1
      have hB1:Bl w w1:=(hB.alloc hsz _).grown hg1 (by simp;omega) (fun x hx=>(World.ownsRow.lt HO.out x hx).1)
      obtain ⟨a1,c1,rfl⟩:=HO1.out.shape
      clear ho1 hg1 hf1
      go_wp2_with fail
      go_roundw
      case rel=>exact ⟨k+1,true,by omega,by go_num,rfl,(by have:=HOk2.out;simpa using this),HO1.out,hB1⟩
      case measure=>simp [RowKit.intOf];omega
     ·have hd:decide (0<=fz)=false:=decide_eq_false hz
      have HOk2:Hid (false=true↔okK its (k+1)):=by have:=HOk1.out;rw [hd] at this;exact this
      go_wp2_with (at_builtin;refine wpList_app1 rfl _ _ _ rfl w.heap.size 3 i0 _ 8 Tryz.underlying60 hi hz0 hz1 hz2 rfl _ (tgL its k) rfl (HO.out.below (bel_a _ _)) ⟨wr.heap.size,0,none⟩ (.int .i64 fz) rfl (lit1 _ _ _) rfl hxl (by decide) (by simp;omega) ?_)
      intro v1 w1 ho1 hg1 hf1
      have HO1:Hid (ORow w.heap.size 3 w1 v1 (tgL its (k+1))):=by show ORow _ _ _ _ _;rw [HE.out,HZ0.out];exact ho1
      have hB1:Bl w w1:=(hB.alloc hsz _).grown hg1 (by simp;omega) (fun x hx=>(World.ownsRow.lt HO.out x hx).1)
      obtain ⟨a1,c1,rfl⟩:=HO1.out.shape
      clear ho1 hg1 hf1
      go_wp2_with fail
      go_roundw
      case rel=>exact ⟨k+1,false,by omega,by go_num,rfl,HOk2.out,HO1.out,hB1⟩
      case measure=>simp [RowKit.intOf];omega
  ·have hkn:k=its.length:=by omega
   have HL:Hid (ok=true↔Linked its):=by
    refine HOk.out.trans ⟨fun h i hi hki=>findZ_pos.1 (h i (by omega) hki),fun h i hi hki=>findZ_pos.2 (h i (by omega) hki)⟩
   go_wp2_with fail
   refine bodyPost_ret (by simp [results,Tryz.results17,go_sem];try rfl) rfl ?_
   exact ⟨_,ok,rfl,by rw [<-hkn];exact HO.out,hB,HL.out⟩
end
section
open Go.RowKit
def blv (lg:List Bool):List Value:=lg.map Value.bool
theorem blv_len (lg:List Bool):(blv lg).length=lg.length:=by simp [blv]
theorem blv_at (lg:List Bool) (i:Nat) (h:i<lg.length):(blv lg)[i]? = some (.bool (lg.getD i false)):=by simp [blv,List.getD,h]
def passK (its:List It) (lg:List Bool) (j:Nat):List Bool:=(List.range lg.length).map (fun i=>lg.getD i false || (decide (i<j) && grows its lg i))
theorem passK_len (its:List It) (lg:List Bool) (j:Nat):(passK its lg j).length=lg.length:=by simp [passK]
theorem passK_zero (its:List It) (lg:List Bool):passK its lg 0=lg:=by
 apply List.ext_getElem
 ·simp [passK]
 ·intro i h1 h2
  simp [passK,List.getD,h2]
theorem passK_end (its:List It) (lg:List Bool):passK its lg lg.length=turn its lg:=by
 unfold passK turn
 apply List.map_congr_left
 intro i hi
 have:=List.mem_range.1 hi
 simp [this]
theorem passK_at (its:List It) (lg:List Bool) (j:Nat) (h:j<lg.length):(passK its lg j).getD j false=lg.getD j false:=by
 have e:(passK its lg j).getD j false=(lg.getD j false || (decide (j<j) && grows its lg j)):=by simp [passK,List.getD,h]
 rw [e]
 simp
theorem passK_yes (its:List It) (lg:List Bool) (j:Nat) (h:j<lg.length) (hg:grows its lg j=true):passK its lg (j+1)=(passK its lg j).set j true:=by
 apply List.ext_getElem
 ·simp [passK]
 ·intro i h1 h2
  rw [List.getElem_set]
  by_cases e:j=i
  ·subst e
   simp [passK,hg]
  ·rw [if_neg e]
   simp only [passK,List.getElem_map,List.getElem_range]
   have:decide (i<j+1)=decide (i<j):=by
    by_cases h':i<j
    ·rw [decide_eq_true h',decide_eq_true (by omega)]
    ·rw [decide_eq_false h',decide_eq_false (by omega)]
   rw [this]
theorem passK_no (its:List It) (lg:List Bool) (j:Nat) (hg:grows its lg j=false):passK its lg (j+1)=passK its lg j:=by
 unfold passK
 apply List.map_congr_left
 intro i hi
 by_cases e:i=j
 ·subst e;simp [hg]
 ·have:decide (i<j+1)=decide (i<j):=by
   by_cases h':i<j
   ·rw [decide_eq_true h',decide_eq_true (by omega)]
   ·rw [decide_eq_false h',decide_eq_false (by omega)]
  rw [this]
def anyK (its:List It) (lg:List Bool) (j:Nat):Bool:=(List.range j).any (grows its lg)
theorem anyK_succ (its:List It) (lg:List Bool) (j:Nat):anyK its lg (j+1)=(anyK its lg j || grows its lg j):=by
 unfold anyK
 rw [List.range_succ,List.any_append]
 simp
theorem anyK_brs {its:List It} {lg:List Bool}:anyK its lg its.length=(brs its).any (grows its lg):=by
 unfold anyK
 cases h:(brs its).any (grows its lg)
 ·cases h2:(List.range its.length).any (grows its lg)
  ·rfl
  ·obtain ⟨i,hi,hg⟩:=List.any_eq_true.1 h2
   have:=List.any_eq_true.2 ⟨i,grows_brs (List.mem_range.1 hi) hg,hg⟩
   rw [this] at h
   cases h
 ·obtain ⟨i,hi,hg⟩:=List.any_eq_true.1 h
  exact List.any_eq_true.2 ⟨i,List.mem_range.2 (brs_mem hi).1,hg⟩
theorem turns_br (its:List It) (m:Nat) : ∀i,i<its.length->(turns its m).getD i false=true->(its.getD i it0).kind=3:=by
 induction m with
 | zero=>
  intro i hi h
  simp [turns,List.getD,hi] at h
 | succ m ih=>
  intro i hi h
  have h1:(turns its (m+1)).getD i false=((turns its m).getD i false || grows its (turns its m) i):=turn_at its (turns its m) i (by rw [turns_len];exact hi)
  rw [h1] at h
  simp only [Bool.or_eq_true] at h
  rcases h with h | h
  ·exact ih i hi h
  ·exact (brs_mem (grows_brs hi h)).2
def lastOf (p:Value) (n:Nat) (wr:World):Nat:=match p with
 | .slice (some a) _ _=>(match wr.cell? ⟨a.block,n,none⟩ with | some (.int _ z)=>z.toNat | _=>0)
 | _=>0
theorem lastOf_eq {B:Nat} {wr:World} {p:Value} {its:List It} {lg:List Bool} {n:Nat} (h:ORow B 2 wr p (plK its lg (n+1))):lastOf p n wr=4*plN its lg n:=by
 obtain ⟨g,c,rfl,_,_,hc⟩:=h.at (by rw [plK_len];omega)
 have:=(hc n _ (plK_at its lg (n+1) n (by omega))).1
 simp only [lastOf,this]
 omega
def flagOf (v:Value):Nat:=match v with | .bool true=>1 | _=>0
theorem ORow.bls {B:Nat} {w:World} {v:Value} {lg:List Bool} (h:ORow B 4 w v (blv lg)):Bls w v lg:=by
 obtain ⟨a,c,e⟩:=h.shape
 refine ⟨a,c,by rw [e,blv_len],fun h0 => ?_⟩
 obtain ⟨g,c',e',_,_,hc⟩:=h.at (by rw [blv_len];exact h0)
 rw [e] at e'
 simp only [Value.slice.injEq,true_and] at e'
 refine ⟨g,e'.1,fun i hi => ?_⟩
 have:=(hc i _ (blv_at lg i hi)).1
 simpa [List.getD,hi] using this
theorem ORow.ownNe {B:Nat} {t:TypeId} {w:World} {v:Value} {xs:List Value} (h:ORow B t w v xs) : ∀g,v.ownBlock=some g->B<=g/\g<w.heap.size:=fun g hg=>World.ownsRow.lt h g hg
theorem ORow.store {B:Nat} {t:TypeId} {w:World} {g c:Nat} {xs:List Value} (h:ORow B t w (.slice (some ⟨g,0,none⟩) xs.length c) xs) (j:Nat) (u:Value):ORow B t (w.setCell ⟨g,j,none⟩ u) (.slice (some ⟨g,0,none⟩) xs.length c) (xs.set j u):=by
 have:=(World.ownsRow.stored h j u).1
 show World.ownsRow _ _ _ _ _ _ _
 rw [List.length_set]
 exact this
theorem ORow.other {B:Nat} {t:TypeId} {w:World} {v:Value} {xs:List Value} (h:ORow B t w v xs) {g:Nat} (hne : ∀x,v.ownBlock=some x->x≠g) (j:Nat) (u:Value):ORow B t (w.setCell ⟨g,j,none⟩ u) v xs:=by
 have hgr:w.grownBy (w.setCell ⟨g,j,none⟩ u) (some g):=by
  have hb0:=(Below.refl 0 w).setCell (p:=⟨g,j,none⟩) (Nat.zero_le _) u
  exact ⟨hb0.os,hb0.tape,hb0.output,hb0.size,fun i _ hi=>Below.heap_setCell _ _ _ i (fun e=>hi (by rw [e]))⟩
 exact World.ownsRow.kept h hgr (by
  cases e:v.ownBlock with
  | none=>exact .inl rfl
  | some x=>exact .inr (fun h'=>hne x e (by injection h')))
theorem blv_set (lg:List Bool) (j:Nat):(blv lg).set j (.bool true)=blv (lg.set j true):=by simp [blv,List.map_set]
end
section
open Go.RowKit
theorem run_appU2 {w : World} (base : Nat) (ty : TypeId) (v : Value) (xs : List Int) (hown : URow base w v xs) (x : Value) (us : List Int) (hx : USrc w x us) (hm : xs.length + us.length ≤ 10000000) (hbase : base ≤ w.heap.size) :
  ∃ v' w', (Builtin.append_ #[25, 25] ty #[v, x]).run Tryz.prog w = .ok v' w' ∧ URow base w' v' (xs ++ us) ∧ w.grownBy w' v.ownBlock ∧ ∀ k, v'.ownBlock = some k → v.ownBlock = some k ∨ w.heap.size ≤ k := by
 obtain ⟨i0, hi, hz0, hz1, hz2⟩ := info_parts info_u32
 obtain ⟨a, cap, rfl, h2, h3⟩ := hx
 cases a with
 | none =>
  obtain rfl := h2 rfl
  have hr : (Builtin.append_ #[25, 25] ty #[v, .slice none ([] : List Int).length cap]).run Tryz.prog w = .ok v w := by
   rcases hown.2 with ⟨rfl, hn⟩ | ⟨g, cap', cur, rfl, _, _, hnc, _⟩
   ·simp [Builtin.append_, run_underlying Tryz.underlying25, sizeOf, typeInfo, hi, Builtin.lenOf, Builtin.firstCells]
   ·simp [Builtin.append_, run_underlying Tryz.underlying25, sizeOf, typeInfo, hi, Builtin.lenOf, Builtin.firstCells, hnc, storeCells]
  exact ⟨v, w, hr, by simpa using hown, ⟨rfl, rfl, rfl, Nat.le_refl _, fun _ _ _ => rfl⟩, fun k hk => .inl hk⟩
 | some ad =>
  obtain ⟨v', w', r1, r2, r3, r4⟩ := app_freshG (P := Tryz.prog) (w := w) base 25 ty 35 i0 _ 1 4 Tryz.underlying25 hi hz0 hz1 hz2 rfl (by decide) v xs.length (xs.map (Value.int .u32)) hown ad us.length cap (us.map (Value.int .u32)) (by simp) (h3 ad rfl) (by intro u hu; simp at hu; obtain ⟨y, _, rfl⟩ := hu; rfl) hm (by decide) hbase
  refine ⟨v', w', r1, ?_, r3, r4⟩
  unfold URow
  rw [List.length_append, List.map_append]
  exact r2
theorem step_appU {w : World} {ops : Array Oper} {o : Oper} {a : Act} {K : Act → World → Prop} {Q : Exit → Act → World → Prop} {E : Prop} (hgd : o.guard = none) (s x : Operand)
  (ho : o.op = .call { callee := .builtin .append, args := #[s, x], argTypes := #[25, 25] })
  (base : Nat) (v : Value) (xs : List Int) (hs : a.eval s = v) (hown : URow base w v xs) (xv : Value) (us : List Int) (hxv : a.eval x = xv) (hx : USrc w xv us)
  (hm : xs.length + us.length ≤ 10000000) (hbase : base ≤ w.heap.size)
  (h : ∀ v' w', URow base w' v' (xs ++ us) → w.grownBy w' v.ownBlock → (∀ k, v'.ownBlock = some k → v.ownBlock = some k ∨ w.heap.size ≤ k) → K (a.put o.dst v') w') :
  if Region.wanted o (yielded ops a.tmps) = true then Oper.wp Tryz.prog o a w K Q else E := by
 have hw : Region.wanted o (yielded ops a.tmps) = true := by simp [Region.wanted, hgd]
 rw [if_pos hw]
 obtain ⟨v', w', hr, h2, h3, h4⟩ := run_appU2 (w := w) base o.type v xs hown xv us hx hm hbase
 unfold Oper.wp execOp
 simp only [ho, resolve, invoke, builtin, Sem.run_bind, Sem.run_pure, Result.andThen_ok, List.map_toArray, List.map_cons, List.map_nil, hs, hxv, hr]
 exact h v' w' h2 h3 h4
structure RdC (W : World) (b o gt gp gl k t : Nat) (x : It) (q1 q2 : Nat) (l : Bool) : Prop where
 c0 : W.cell? ⟨b, o, none⟩ = some (.int .i64 x.kind)
 c1 : W.cell? ⟨b, o + 1, none⟩ = some (.int .i64 x.ins.op)
 c2 : W.cell? ⟨b, o + 2, none⟩ = some (.int .i64 x.ins.rd)
 c3 : W.cell? ⟨b, o + 3, none⟩ = some (.int .i64 x.ins.s1)
 c4 : W.cell? ⟨b, o + 4, none⟩ = some (.int .i64 x.ins.s2)
 c5 : W.cell? ⟨b, o + 5, none⟩ = some (.int .i64 x.ins.im)
 c6 : W.cell? ⟨b, o + 6, none⟩ = some (.int .i64 x.label)
 tc : W.cell? ⟨gt, k, none⟩ = some (.int .i64 (t : Int))
 p1 : W.cell? ⟨gp, t, none⟩ = some (.int .i64 (4 * ((q2 : Nat) : Int)))
 p2 : W.cell? ⟨gp, k, none⟩ = some (.int .i64 (4 * ((q1 : Nat) : Int)))
 lc : W.cell? ⟨gl, k, none⟩ = some (.bool l)
theorem RdC.below {W W' : World} {b o gt gp gl k t : Nat} {x : It} {q1 q2 : Nat} {l : Bool} (h : RdC W b o gt gp gl k t x q1 q2 l) (hb : Below W.heap.size W W') : RdC W' b o gt gp gl k t x q1 q2 l := by
 have h0 : b < W.heap.size := World.block_lt_of_cell? _ _ h.c0
 have h1 : gt < W.heap.size := World.block_lt_of_cell? _ _ h.tc
 have h2 : gp < W.heap.size := World.block_lt_of_cell? _ _ h.p1
 have h3 : gl < W.heap.size := World.block_lt_of_cell? _ _ h.lc
 exact ⟨(hb.cell (p := ⟨b, o, none⟩) h0).trans h.c0, (hb.cell (p := ⟨b, o + 1, none⟩) h0).trans h.c1, (hb.cell (p := ⟨b, o + 2, none⟩) h0).trans h.c2, (hb.cell (p := ⟨b, o + 3, none⟩) h0).trans h.c3, (hb.cell (p := ⟨b, o + 4, none⟩) h0).trans h.c4, (hb.cell (p := ⟨b, o + 5, none⟩) h0).trans h.c5, (hb.cell (p := ⟨b, o + 6, none⟩) h0).trans h.c6, (hb.cell (p := ⟨gt, k, none⟩) h1).trans h.tc, (hb.cell (p := ⟨gp, t, none⟩) h2).trans h.p1, (hb.cell (p := ⟨gp, k, none⟩) h2).trans h.p2, (hb.cell (p := ⟨gl, k, none⟩) h3).trans h.lc⟩
theorem RdC.grown {W W' : World} {b o gt gp gl k t : Nat} {x : It} {q1 q2 : Nat} {l : Bool} {row : Option Nat} (h : RdC W b o gt gp gl k t x q1 q2 l) (hg : W.grownBy W' row) (h0 : some b ≠ row) (h1 : some gt ≠ row) (h2 : some gp ≠ row) (h3 : some gl ≠ row) : RdC W' b o gt gp gl k t x q1 q2 l :=
 ⟨hg.cell h.c0 h0, hg.cell h.c1 h0, hg.cell h.c2 h0, hg.cell h.c3 h0, hg.cell h.c4 h0, hg.cell h.c5 h0, hg.cell h.c6 h0, hg.cell h.tc h1, hg.cell h.p1 h2, hg.cell h.p2 h2, hg.cell h.lc h3⟩
theorem ORow.grown {B : Nat} {t : TypeId} {w w' : World} {v : Value} {xs : List Value} {row : Option Nat} (h : ORow B t w v xs) (hg : w.grownBy w' row) (hne : ∀ x, v.ownBlock = some x → row ≠ some x) : ORow B t w' v xs :=
 World.ownsRow.kept h hg (by
  cases e : v.ownBlock with
  | none => exact .inl rfl
  | some x => exact .inr (fun h' => hne x e h'.symm))
end
end Go.Proofs.YtpdndlghjldhjaaGreat
