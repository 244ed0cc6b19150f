import Derived.Test.YtffnkkpmlplfeaaGreatDoorN50
import Derived.Deep.RegionLaw
import Derived.Test.YtffnkkpmlplfeaaGreatDoorN07
namespace Go.Proofs.YtffnkkpmlplfeaaGreatDoor
open Go.Proofs.Tryz
open Go.RowKit
set_option linter.all false
set_option maxRecDepth 100000
set_option maxHeartbeats 16000000
variable[Inhabited Pick]
section
variable {C:IC} {vO vI:Value} {w W:World} {vV:Option Nat} {s:ES} {b nn k:Nat} {D:DataW Value} {gs:List Gl} {gb:List Nat} {x:ByteArray} {t:Tr}
theorem TEi.P :TEi C vO C.P:=.inl rfl
theorem burn_no (h:IS C w vV vI vO s) (hu:s.u=0) :
  Calls prog 143 #[.pointer (some ⟨C.P,0,none⟩)] w λe w'=>e=.returned (.bool false)/\w'=w:=by
 have p8:=(h.box 8 _ rfl).1;rw[hu] at p8;go_enter func143,ntmps143;go_wp2;go_ret;exact⟨rfl,rfl⟩
theorem burn_yes (hC:C.Ok) (h:IS C w vV vI vO s) (hu:0<s.u) :
  Calls prog 143 #[.pointer (some ⟨C.P,0,none⟩)] w λe w'=>e=.returned (.bool true)/\IS C w' vV vI vO s.sp/\Tcs (TEi C vO) w w':=by
 have p8:=(h.box 8 _ rfl).1;have f8:=(h.box 8 _ rfl).2;have hne:((s.u:Int) == 0)=false:=by simp;omega
 have huu:=h.uu.1;have hn:=h.nn;have H:Hid (IS C (w.setCell ⟨C.P,8,none⟩ (.int .i64 ((s.u:Int)-1))) vV vI vO s.sp):=by
  have e:((s.sp.u:Nat):Int)=(s.u:Int)-1:=by simp only[ES.sp];omega
  rw[<-e];exact h.boxed hC 8 _ rfl rfl rfl rfl h.inp ⟨h.ok.g,h.ok.l,h.ok.i⟩ (by simp only[ES.sp];omega) ⟨hn.1,by simp only[ES.sp];omega,hn.2.2.1,hn.2.2.2⟩
 go_enter func143,ntmps143;go_wp2;go_ret;exact⟨rfl,H,(Tcs.refl (TEi C vO) w).setCell (p:=⟨C.P,8,none⟩) TEi.P _⟩
theorem look_glb (hown:W.ownsMap prog 9 heldV b nn D) (hG:GlbIs D gs gb) (hs:x.size<=maxLen) (hk:k<gs.length) (h:gix gs x=some k) :
  (Instr.lookup 79 (.map (some b)) (.string x) true).run prog W=.ok (.tuple #[.slice (some ⟨gb.getD k 0,0,none⟩) (gln gs[k]) (gln gs[k]),.bool true]) W:=by
 obtain⟨v,ps,hrun,hv⟩:=hown.look_ok (Maps.string_keyed underlying9) underlying79 (zeroValue26 _) (show heldV (.slice none 0 0)=some (.held (.slice none 0 0),[]) from rfl) (WideMaps.keyOf_string_mk underlying9 hs);rw[hG.val x k hk h] at hv;simp only[heldV,Option.some.injEq,Prod.mk.injEq,DataW.held.injEq] at hv;have hh:=hG.has x;rw[h] at hh;rw[hh,hv.1] at hrun;exact hrun
theorem look_glbN (hown:W.ownsMap prog 9 heldV b nn D) (hG:GlbIs D gs gb) (hs:x.size<=maxLen) (h:gix gs x=none) :
  (Instr.lookup 79 (.map (some b)) (.string x) true).run prog W=.ok (.tuple #[.slice none 0 0,.bool false]) W:=by
 obtain⟨v,ps,hrun,hv⟩:=hown.look_ok (Maps.string_keyed underlying9) underlying79 (zeroValue26 _) (show heldV (.slice none 0 0)=some (.held (.slice none 0 0),[]) from rfl) (WideMaps.keyOf_string_mk underlying9 hs);have hh:=hG.has x;rw[h] at hh;rw[Maps.atKey_of_not_has hh] at hv;simp only[heldV,Option.some.injEq,Prod.mk.injEq,DataW.held.injEq] at hv;rw[hh,hv.1] at hrun;exact hrun
theorem look_glb1 (hown:W.ownsMap prog 9 heldV b nn D) (hG:GlbIs D gs gb) (hs:x.size<=maxLen) (hk:k<gs.length) (h:gix gs x=some k) :
  (Instr.lookup 79 (.map (some b)) (.string x) false).run prog W=.ok (.slice (some ⟨gb.getD k 0,0,none⟩) (gln gs[k]) (gln gs[k])) W:=by
 obtain⟨v,ps,hrun,hv⟩:=hown.lookup (Maps.string_keyed underlying9) underlying79 (zeroValue26 _) (show heldV (.slice none 0 0)=some (.held (.slice none 0 0),[]) from rfl) (WideMaps.keyOf_string_mk underlying9 hs);rw[hG.val x k hk h] at hv;simp only[heldV,Option.some.injEq,Prod.mk.injEq,DataW.held.injEq] at hv;rw[hv.1] at hrun;exact hrun
theorem look_var {D:DataW Unit} {l:List (ByteArray × Int)} (hown:W.ownsMap prog 9 (plainElem (H:=Unit) prog 2) b nn D) (hN:VarIs D l) {v:Int} (hs:x.size<=maxLen) (h:(x,v)∈l) :
  (Instr.lookup 77 (.map (some b)) (.string x) false).run prog W=.ok (.int .i64 v) W:=by
 obtain⟨c,hrun,hc,_⟩:=hown.lookup_int (Maps.string_keyed underlying9) underlying77 underlying2 (zeroValue2 _) (WideMaps.keyOf_string_mk underlying9 hs);rw[(hN.val x v h).2] at hc;simp only[DataW.lit.injEq,Lit.int.injEq,true_and] at hc;subst hc;exact hrun
theorem map_tcs {H:Type} {P:Program} {k:TypeId} {R:Value->Option (DataW H × List MemPlace)} {w':World} {n:Nat} {D:DataW H} {S:Nat->Prop} (h:w.ownsMap P k R b n D) (ht:Tcs S w w') (hn : ¬S b):w'.ownsMap P k R b n D:=by
 have hlt:=h.lt;obtain⟨es,clock,h0,F,hs,hD⟩:=h;exact⟨es,clock,(ht.block b hlt hn).trans h0,F,hs,hD⟩
theorem IS.glb (hC:C.Ok) (h:IS C w vV vI vO s) : ∃n D,w.ownsMap prog 9 heldV C.bM n D/\GlbIs D C.t.globals C.gb:=by
 obtain⟨n,D,h1,h2⟩:=hC.glb;have:=hC.ne C.bM (.inr (.inl rfl))
 exact⟨n,D,map_tcs h1 h.tc (λe=>e.elim this.2.1 this.2.2),h2⟩
theorem IS.num (hC:C.Ok) (h:IS C w vV vI vO s) : ∃n D,w.ownsMap prog 9 (plainElem (H:=Unit) prog 2) C.bN n D/\NumIs D C.t.funcs:=by
 obtain⟨n,D,h1,h2⟩:=hC.num;have:=hC.ne C.bN (.inl rfl)
 exact⟨n,D,map_tcs h1 h.tc (λe=>e.elim this.2.1 this.2.2),h2⟩
theorem gix_neg : ∀ {gs:List Gl} {x:ByteArray},(∀g∈gs,0<=g.size)->globI gs x<0->gix gs x=none
 | [],_,_,_=>rfl
 | g::r,x,hg,h=>by
  unfold globI at h;by_cases e:g.name=x
  ·rw[if_pos e] at h;have:=hg g (by simp)
   omega
  ·rw[if_neg e] at h;have:=gix_neg (λy hy=>hg y (by simp[hy])) h
   unfold gix at this ⊢;rw[List.findIdx?_cons];simp[e,this]
theorem glob_nn (h:(checkE t).1=0) : ∀g∈t.globals,0<=g.size:=λg hg=>by
 obtain⟨h1,-,-⟩:=sound_snd h;simp only[treeB,Bool.and_eq_true,decide_eq_true_eq,List.all_eq_true] at h1;have:=h1.2.2.1 g hg
 simp only[globB,Bool.and_eq_true,decide_eq_true_eq] at this;exact this.2.1
theorem scp_gix (hC:C.Ok) {sc:List ByteArray} (h:Scp C.t sc) (hx:x∈sc):gix C.t.globals x=none:=gix_neg (glob_nn hC.snd) (h.2 x hx)
theorem rd_var (hx:x∈s.l.map Prod.fst) : ∃v,(x,v)∈s.l/\s.rd t x=v:=by
 obtain⟨j,hj,h1,h2⟩:=lix_mem.1 hx;refine⟨(s.l[j]).2,?_,?_⟩
 ·have:=g_ hj
  rw[<-h2];exact this
 ·unfold ES.rd;rw[h1];simp[List.getD,hj]
theorem IS.word (hC:C.Ok) (h:IS C w vV vI vO s) (hk:k<C.t.globals.length) : ∃b,C.gb.getD k 0=b/\b∈C.gb/\(s.g.getD k []).length=gln C.t.globals[k]/\FrC w b ((s.g.getD k []).map (Value.int .i64)):=by
 have hkb:k<C.gb.length:=by rw[hC.gbl];exact hk
 have hkg:k<s.g.length:=by rw[h.gl];exact hkb
 refine⟨C.gb[k],by simp[List.getD,hkb],g_ hkb,?_,h.gw k hkb⟩;have:=h.g1 k hkg hk
 simpa[List.getD,hkg] using this
theorem gln_pos (g:Gl) (h:0<=g.size):1<=gln g:=by unfold gln;split <;> omega
theorem get_any (hC:C.Ok) (h:IS C w vV vI vO s) (hsc:Scp C.t (s.l.map Prod.fst)) (hz:x.size<=maxLen) (hx:x∈s.l.map Prod.fst∨(x∉s.l.map Prod.fst/\globI C.t.globals x=0)) :
  Calls prog 217 #[.pointer (some ⟨C.P,0,none⟩),.string x] w λe w'=>e=.returned (.int .i64 (s.rd C.t x))/\w'=w:=by
 have p4:=(h.box 4 _ rfl).1;have p5:=(h.box 5 _ rfl).1;obtain⟨n,D,hown,hG⟩:=h.glb hC;rcases hx with hx|⟨hx,hg⟩
 ·have hl:=look_glbN hown hG hz (scp_gix hC hsc hx);obtain⟨v,hv,he⟩:=rd_var (t:=C.t) hx;obtain⟨b,rfl,hl2⟩ : ∃b,vV=some b/\(Instr.lookup 77 (.map (some b)) (.string x) false).run prog w=.ok (.int .i64 v) w:=by
   rcases h.var with ⟨-,e⟩|⟨b,n,D,rfl,h1,h2,-⟩
   ·rw[e] at hv;cases hv
   ·exact⟨b,rfl,look_var h1 h2 hz hv⟩
  rw[he];go_enter func217,ntmps217;go_wp2;go_ret;exact⟨rfl,rfl⟩
 ·obtain⟨k,hk,h1,h2⟩:=gix_glob (gs:=C.t.globals) (x:=x) o_;have hl:=look_glb hown hG hz hk h1;obtain⟨b,hb,hbm,hlen,hf⟩:=h.word hC hk;have hgp:=gln_pos C.t.globals[k] (glob_nn hC.snd _ (g_ hk));have he:s.rd C.t x=(s.g.getD k []).getD 0 0:=by
   unfold ES.rd;rw[lix_no hx,h1]
  have hc0:=(hf 0 (.int .i64 ((s.g.getD k []).getD 0 0)) (by
   generalize s.g.getD k []=ws at hlen ⊢;rw[List.getElem?_map,List.getElem?_eq_getElem o_];simp[List.getD,show 0<ws.length by omega])).1
  rw[he];rw[hb] at hl;generalize gln C.t.globals[k]=N at *;generalize (s.g.getD k []).getD 0 0=v0 at *;have hNi:(0:Int)<(N:Int):=by omega
  go_enter func217,ntmps217;go_wp2;go_ret;exact⟨rfl,rfl⟩
end
section
variable {C:IC} {w:World} {vV:Option Nat} {vI vO:Value} {s:ES} {x:ByteArray} {k j:Nat} {v:Int} {l':List (ByteArray × Int)}
theorem elem_in (hC:C.Ok) (h:IS C w vV vI vO s) (hz:x.size<=maxLen) (hk:k<C.t.globals.length) (h1:gix C.t.globals x=some k) (hv:0<=v/\v<gln C.t.globals[k]) :
  Calls prog 146 #[.pointer (some ⟨C.P,0,none⟩),.string x,.int .i64 v] w λe w'=>e=.returned (.pointer (some ⟨C.gb.getD k 0,v.toNat,none⟩))/\w'=w:=by
 have p4:=(h.box 4 _ rfl).1;obtain⟨n,D,hown,hG⟩:=h.glb hC;have hl:=look_glb1 hown hG hz hk h1;generalize gln C.t.globals[k]=N at *;generalize C.gb.getD k 0=b at *;obtain⟨j,rfl⟩ : ∃j:Nat,v=(j:Int):=⟨v.toNat,by omega⟩;have e1:((j:Int)).toNat=j:=by simp
 rw[e1];have hn1 : ¬(j:Int)<0:=by omega
 have hn2 : ¬(N:Int)<=(j:Int):=by omega
 go_enter func146,ntmps146;go_wp2;go_ret;exact⟨rfl,rfl⟩
theorem elem_out (hC:C.Ok) (h:IS C w vV vI vO s) (hz:x.size<=maxLen) (hk:k<C.t.globals.length) (h1:gix C.t.globals x=some k) (hv : ¬(0<=v/\v<gln C.t.globals[k])) :
  Calls prog 146 #[.pointer (some ⟨C.P,0,none⟩),.string x,.int .i64 v] w λe w'=>e=.returned (.pointer none)/\w'=w:=by
 have p4:=(h.box 4 _ rfl).1;obtain⟨n,D,hown,hG⟩:=h.glb hC;have hl:=look_glb1 hown hG hz hk h1;generalize gln C.t.globals[k]=N at *;generalize C.gb.getD k 0=b at *;by_cases hn1:v<0
 ·go_enter func146,ntmps146;go_wp2;go_ret;exact⟨rfl,rfl⟩
 ·have hn2:(N:Int)<=v:=by omega
  go_enter func146,ntmps146;go_wp2;go_ret;exact⟨rfl,rfl⟩
theorem input_no (hC:C.Ok) (h:IS C w vV vI vO s) (hi:s.i = []) :
  Calls prog 218 #[.pointer (some ⟨C.P,0,none⟩)] w λe w'=>e=.returned (.int .i64 0)/\w'=w:=by
 obtain⟨a,c,rfl,-⟩:=h.inp;have p6:=(h.box 6 _ rfl).1;rw[hi] at p6;simp only[l_n] at p6;go_enter func218,ntmps218;go_wp2;go_ret;exact⟨rfl,rfl⟩
theorem input_yes (hC:C.Ok) (h:IS C w vV vI vO s) {q:Int} {rst:List Int} (hi:s.i=q::rst) :
  Calls prog 218 #[.pointer (some ⟨C.P,0,none⟩)] w λe w'=>∃vI',e=.returned (.int .i64 q)/\IS C w' vV vI' vO {s with i:=rst}/\Tcs (TEi C vO) w w':=by
 have hbw:Bl C.wa w:=h.tc.below hC.bel hC.bel.size (λk hk=>by
  obtain⟨-,-,h3,-,h5⟩:=hC.pg;rcases hk with e|e
  ·omega
  ·exact (h5 k e).1)
 have hin:=h.inp;rw[hi] at hin;obtain⟨Ia,Ic,rfl,hIl,hI2,hIc⟩:=hin;have htl:=InN.tail (w0:=C.wa) (a:=Ia) (c:=Ic) (x:=q) (r:=rst) ⟨Ia,Ic,rfl,hIl,hI2,hIc⟩;obtain⟨bI,oI,hIa,hcI⟩:=hIc (by simp);have hq0:w.cell? ⟨bI,oI,none⟩=some (.int .i64 q):=by
  have h0:=hcI 0 (by simp);simp only[Nat.add_zero,List.getElem_cons_zero] at h0;exact (hbw.cell (p:=⟨bI,oI,none⟩) (b_ h0)).trans h0
 have hcut:=icut_run Ia (q::rst).length Ic (by simp) hIl;obtain⟨Ta,hTa⟩ : ∃Ta,Ta=(if Ic=1 then Ia else Ia.map (·.add (1*1))):=⟨_,rfl⟩;rw[<-hTa] at hcut htl;have p6:=(h.box 6 _ rfl).1;have f6:=(h.box 6 _ rfl).2;have H:Hid (IS C (w.setCell ⟨C.P,6,none⟩ (.slice Ta rst.length (Ic-1))) vV (.slice Ta rst.length (Ic-1)) vO {s with i:=rst}):=h.boxed hC 6 _ rfl rfl rfl rfl htl ⟨h.ok.g,h.ok.l,λx hx=>h.ok.i x (by rw[hi];exact m_ _ hx)⟩ n_ h.nn;obtain⟨il,hil⟩ : ∃il,il=(q::rst).length:=⟨_,rfl⟩;have hil1:0<il:=by rw[hil];simp
 have hil2:il-1=rst.length:=by rw[hil];simp
 have hil3:((il:Int) == 0)=false:=by simp;omega
 rw[<-hil] at hcut p6;rw[hil2] at hcut;generalize rst.length=rl at hcut H;subst hIa;clear h hbw htl hcI hIc hIl hil hil2 hTa;go_enter func218,ntmps218;go_wp2;go_ret;exact⟨_,rfl,H,(Tcs.refl _ _).setCell (p:=⟨C.P,6,none⟩) TEi.P _⟩
theorem VarIs.put {D:DataW Unit} {l:List (ByteArray × Int)} (h:VarIs D l) (hl : ∀y u,(y,u)∈l'->(y=x/\u=v)∨(y≠x/\(y,u)∈l)):VarIs (D.put (kS x) (.lit (.int .i64 v))) l':=by
 refine⟨h.map.put _ _,λy u hy => ?_⟩;rcases hl y u hy with ⟨rfl,rfl⟩|⟨hne,hm⟩
 ·exact⟨Maps.has_put_same (k:=kS y) h.map trivial _,Maps.atKey_put_same (k:=kS y) h.map trivial ..⟩
 ·rw[Maps.has_put_other (kS_ne hne),Maps.atKey_put_other (kS_ne hne)];exact h.val y u hm
theorem nodup_inj {l:List Nat} (h:l.Nodup) {i:Nat} (hi:i<l.length) (hj:j<l.length) (e:l[i]=l[j]):i=j:=by
 have hp:=List.pairwise_iff_getElem.1 h;rcases Nat.lt_trichotomy i j with hl|hl|hl
 ·exact absurd e (hp i j hi hj hl)
 ·exact hl
 ·exact absurd e.symm (hp j i hj hi hl)
theorem IS.vars (hC:C.Ok) {w':World} {b:Nat} (h:IS C w (some b) vI vO s) {n:Nat} {D':DataW Unit} (hg:Tcs (λk=>k=b) w w') (ho:w'.ownsMap prog 9 (plainElem (H:=Unit) prog 2) b n D') (hv:VarIs D' l') (hn:n+s.u<=100010) (hl : ∀y∈l',inB y.2):IS C w' (some b) vI vO {s with l:=l'}:=by
 obtain⟨p1,p2,p3⟩:=h.hi hC;obtain⟨-,-,-,q4,q5⟩:=hC.pg;obtain⟨hb,hob⟩:C.w0.heap.size<=b/\vO.ownBlock≠some b:=by
  rcases h.var with ⟨e,-⟩|⟨b',n,D,e,-,-,-,h4,h5⟩
  ·cases e
  ·cases e;exact⟨h4,h5⟩
 refine⟨h.tc.next hg (λk hk=>.inr (by have e:k=b:=hk;omega)),h.box.tcs p1 hg (λe=>by have e':C.P=b:=e;omega),h.gl,λk hk=>(h.gw k hk).tcs (p2 _ (g_ hk)).1 hg (λe=>by have e':C.gb[k]=b:=e;have:=(q5 _ (g_ hk)).2;omega),h.g1,.inr ⟨b,n,D',rfl,ho,hv,hn,hb,hob⟩,h.inp,own_notU h.out hg (λk hk e=>by have e':k=b:=e;subst e';exact hob hk),⟨h.ok.g,hl,h.ok.i⟩,h.uu,h.nn⟩
theorem IS.gset (hC:C.Ok) (h:IS C w vV vI vO s) (hk:k<C.t.globals.length) (hj:j<gln C.t.globals[k]) (hv:inB v):IS C (w.setCell ⟨C.gb.getD k 0,j,none⟩ (.int .i64 v)) vV vI vO {s with g:=s.g.set k ((s.g.getD k []).set j v)}:=by
 obtain⟨p1,p2,p3⟩:=h.hi hC;obtain⟨q1,q2,q3,q4,q5⟩:=hC.pg;have hkb:k<C.gb.length:=by rw[hC.gbl];exact hk
 have hkg:k<s.g.length:=by rw[h.gl];exact hkb
 have e1:C.gb.getD k 0=C.gb[k]:=by simp[List.getD,hkb]
 have e2:s.g.getD k []=s.g[k]:=by simp[List.getD,hkg]
 rw[e1,e2];have hm:=g_ hkb;have ht:Tcs (λq=>q=C.gb[k]) w (w.setCell ⟨C.gb[k],j,none⟩ (.int .i64 v)):=(Tcs.refl (λq=>q=C.gb[k]) w).setCell (p:=⟨C.gb[k],j,none⟩) rfl _;refine⟨h.tc.trans (ht.mono λq hq=>.inr (by have e:q=C.gb[k]:=hq;rw[e];exact hm)),h.box.tcs p1 ht (λe=>(p2 _ hm).2 e.symm),by simp[h.gl],λi hi => ?_,λi hi hi' => ?_,?_,h.inp,own_notU h.out ht (λq hq e=>by have e':q=C.gb[k]:=e;have:=(World.ownsRow.lt h.out q hq).1;have:=(q5 _ hm).2;omega),⟨setg_ok h.ok.g k (set_ok (λx hx=>h.ok.g _ (g_ hkg) x hx) j hv),h.ok.l,h.ok.i⟩,h.uu,h.nn⟩
 ·by_cases e:k=i
  ·subst e;have hf:=(h.gw k hkb).set j (.int .i64 v);have e3:(s.g.set k ((s.g[k]).set j v)).getD k []=(s.g[k]).set j v:=by simp[List.getD,hkg]
   show FrC _ _ (((s.g.set k ((s.g[k]).set j v)).getD k []).map _);rw[e3,List.map_set];rw[e2] at hf;exact hf
  ·have e3:(s.g.set k ((s.g[k]).set j v)).getD i []=s.g.getD i []:=by simp[List.getD,List.getElem?_set,e]
   show FrC _ _ (((s.g.set k ((s.g[k]).set j v)).getD i []).map _);rw[e3];refine (h.gw i hi).tcs (p2 _ (g_ hi)).1 ht (λe'=>e ?_);have e4:C.gb[i]=C.gb[k]:=e';exact (nodup_inj q2 hi hkb e4).symm
 ·have hi2:i<s.g.length:=by simpa using hi
  by_cases e:k=i
  ·subst e;have:=h.g1 k hkg hk
   simpa using this
  ·have:=h.g1 i hi2 hi'
   simpa[List.getElem_set,e] using this
 ·rcases h.var with hv|⟨b,n,D,rfl,h1,h2,h3,h4,h5⟩
  ·exact .inl hv
  ·exact .inr ⟨b,n,D,rfl,map_tcs h1 ht (λe=>by have e':b=C.gb[k]:=e;have:=(q5 _ hm).2;omega),h2,h3,h4,h5⟩
end
section
variable {n k:Nat} {av vI vO vO1 vI0 vI1:Value} {C:IC} {w w1 w2 wr:World} {vV:Option Nat} {s z z0:ES} {x:ByteArray} {v:Nat->Int}
theorem app_i64 {W:World} {B:Nat} {xs:List Value} (h:W.ownsRow B 2 1 av n xs) (z:Int) (hB:B<=W.heap.size) (hn:n<=1000000) :
  ∃va vc w3,(Builtin.append_ #[26,26] 26 #[av,.slice (some ⟨W.heap.size,0,none⟩) 1 1]).run prog (W.alloc (.cells #[.int .i64 z] 2))=.ok (.slice va (n+1) vc) w3/\w3.ownsRow B 2 1 (.slice va (n+1) vc) (n+1) (xs++[.int .i64 z])/\Tcs (λk=>av.ownBlock=some k) W w3/\∀k,(Value.slice va (n+1) vc).ownBlock=some k->av.ownBlock=some k∨W.heap.size<k:=by
 obtain⟨i0,hi,hz0,hz1,hz2⟩:=info_parts info_i64Z;have hb0:Bl W (W.alloc (.cells #[.int .i64 z] 2)):=bel_a _ _;have h':=ownB h hb0;have hlit:(W.alloc (.cells #[.int .i64 z] 2)).ownsRow W.heap.size 2 1 (.slice (some ⟨W.heap.size,0,none⟩) 1 1) 1 [.int .i64 z]:=World.ownsRow_lit W #[.int .i64 z] 1 n_ (by decide) rfl;obtain⟨v',w',r1,r2,r3,r4⟩:=run_appG (P:=prog) (w:=W.alloc (.cells #[.int .i64 z] 2)) B 26 26 2 i0 _ 1 8 underlying26 hi hz0 hz1 hz2 rfl (by decide) av _ _ h' (some ⟨W.heap.size,0,none⟩) 1 1 [.int .i64 z] (λe=>by cases e) rfl (λad had k u hu=>by cases had;exact World.ownsRow.cells hlit (g:=W.heap.size) rfl k u hu) (λu hu=>by simp at hu;subst hu;rfl) o_ (by decide) (by have:=hb0.size;omega);obtain⟨va,vc,rfl,-⟩:=own_shapeU r2;refine⟨va,vc,w',r1,r2,(hb0.tcs (S:=λk=>av.ownBlock=some k)).next (T:=λk=>av.ownBlock=some k) (Tcs.of_grown r3 (λk hk=>hk)) (λk hk=>.inl hk),λk hk=>(r4 k hk).imp id λh1 => ?_⟩;rw[World.size_alloc] at h1;omega
theorem TEi.lt (hC:C.Ok) (h:IS C w vV vI vO s) : ∀k,TEi C vO k->k<w.heap.size/\C.wa.heap.size<=k:=λk hk=>by
 obtain⟨p1,p2,p3⟩:=h.hi hC;obtain⟨q1,q2,q3,q4,q5⟩:=hC.pg;have:=hC.bel.size
 rcases hk with rfl|hk|hk
 ·exact⟨p1,q3⟩
 ·exact⟨(p2 k hk).1,(q5 k hk).1⟩
 ·have:=World.ownsRow.lt h.out k hk
  exact⟨this.2,by omega⟩
theorem TEi.next (h1:Tcs (TEi C vO) w w1) (h2:Tcs (TEi C vO1) w1 w2) (ho : ∀k,vO1.ownBlock=some k->vO.ownBlock=some k∨w.heap.size<=k):Tcs (TEi C vO) w w2:=
 h1.next h2 λk hk=>by
  rcases hk with rfl|hk|hk
  ·exact .inl (.inl rfl)
  ·exact .inl (.inr (.inl hk))
  ·rcases ho k hk with h|h
   ·exact .inl (.inr (.inr h))
   ·exact .inr h
theorem set_loc (hC:C.Ok) {b:Nat} {D:DataW Unit} (h:IS C w (some b) vI vO s) (ho:w.ownsMap prog 9 (plainElem (H:=Unit) prog 2) b n D) (hN:VarIs D s.l) (hn:n+1+s.u<=100010) {v:Int} (hz:x.size<=maxLen) (hg:gix C.t.globals x=none) (hv:inB v) {l':List (ByteArray × Int)} (hl : ∀y u,(y,u)∈l'->(y=x/\u=v)∨(y≠x/\(y,u)∈s.l)) :
  Calls prog 145 #[.pointer (some ⟨C.P,0,none⟩),.string x,.int .i64 v] w λe w'=>e=.returned (.tuple #[])/\IS C w' (some b) vI vO {s with l:=l'}/\Tcs (λk=>k=b) w w':=by
 have p4:=(h.box 4 _ rfl).1;have p5:=(h.box 5 _ rfl).1;obtain⟨n1,D1,hown,hG⟩:=h.glb hC;have hlk:=look_glbN hown hG hz hg;obtain⟨HO,HZ⟩:=h2 ho hz;have hvb : -2147483648<=v/\v<=2147483647:=hv;have HFin:Hid (∀w',w'.ownsMap prog 9 (plainElem (H:=Unit) prog 2) b (n+1) (D.put (kS x) (.lit (.int .i64 v)))->w.grownBy w' (some b)->IS C w' (some b) vI vO {s with l:=l'}/\Tcs (λk=>k=b) w w'):=λw' h1 h2=>by
  have ht:Tcs (λk=>k=b) w w':=Tcs.of_grown h2 (λk hk=>by cases hk;rfl);refine⟨h.vars hC ht h1 (hN.put hl) hn (λy hy => ?_),ht⟩;rcases hl y.1 y.2 hy with ⟨-,e⟩|⟨-,hm⟩
  ·rw[e];exact hv
  ·exact h.ok.l _ hm
 go_enter func145,ntmps145;go_wp2_with (first
  | (at_mapUpdate;refine wpList_mapUpdate_own _ rfl _ _ _ 77 rfl 9 2 (Maps.string_keyed underlying9) underlying77 _ b n D rfl HO (by unfold maxLen;omega) _ _ _ rfl rfl (WideMaps.keyOf_string_mk underlying9 HZ) _ [] (plainElem_int underlying2 (WalkArith.wf_i64 o_)) ?_;intro w1 hown1 hgrow1)
  | fail)
 have HE:=hide (HFin w1 hown1 hgrow1);go_wp2_with fail;exact bodyPost_end (v:=.tuple #[]) (by simp[results,results145,go_sem]) rfl ⟨rfl,HE⟩
theorem set_glb (hC:C.Ok) (h:IS C w vV vI vO s) {v:Int} (hz:x.size<=maxLen) (hk:k<C.t.globals.length) (h1:gix C.t.globals x=some k) (hv:inB v) :
  Calls prog 145 #[.pointer (some ⟨C.P,0,none⟩),.string x,.int .i64 v] w λe w'=>e=.returned (.tuple #[])/\IS C w' vV vI vO {s with g:=s.g.set k ((s.g.getD k []).set 0 v)}/\Tcs (TEi C vO) w w':=by
 have p4:=(h.box 4 _ rfl).1;obtain⟨n1,D1,hown,hG⟩:=h.glb hC;have hlk:=look_glb hown hG hz hk h1;have hgp:=gln_pos C.t.globals[k] (glob_nn hC.snd _ (g_ hk));have HI:=hide (h.gset hC hk (j:=0) hgp hv);obtain⟨b,hb,hbm,hlen,hf⟩:=h.word hC hk;rw[hb] at HI hlk;have HT:Hid (Tcs (TEi C vO) w (w.setCell ⟨b,0,none⟩ (.int .i64 v))):=(Tcs.refl _ _).setCell (p:=⟨b,0,none⟩) (.inr (.inl hbm)) _;have hc0:=hf 0 (.int .i64 ((s.g.getD k []).getD 0 0)) (by
  generalize s.g.getD k []=ws at hlen ⊢;rw[List.getElem?_map,List.getElem?_eq_getElem o_];simp[List.getD,show 0<ws.length by omega])
 have y0:=hc0.1;have f0:=hc0.2;generalize gln C.t.globals[k]=N at *;generalize (s.g.getD k []).getD 0 0=v0 at y0;have hNi:(0:Int)<(N:Int):=by omega
 go_enter func145,ntmps145;go_wp2_with fail;exact bodyPost_end (v:=.tuple #[]) (by simp[results,results145,go_sem]) rfl ⟨rfl,HI,HT⟩
def LsI (C:IC) (w:World) (vO:Value) (ar:Value) (A:Nat) (us:Nat->Value):Prop:=∃a cap,ar=.slice a A cap/\A<=cap/\cap<=9223372036854775807/\(0<A->∃B,a=some ⟨B,0,none⟩/\B<w.heap.size/\¬TEi C vO B/\∀i,i<A->w.cell? ⟨B,i,none⟩=some (us i))
structure VaI (C:IC) (w:World) (vV:Option Nat) (vO:Value) (v:Nat->Int) (z:ES) (k:Nat) (av:Value) (wr:World) (vI1 vO1:Value):Prop where
 row:wr.ownsRow w.heap.size 2 1 av k ((argL k v).map (Value.int .i64))
 st:IS C wr vV vI1 vO1 z
 tc:Tcs (TEi C vO) w wr
 oo : ∀q,vO1.ownBlock=some q->vO.ownBlock=some q∨w.heap.size<=q
 ap : ∀q,av.ownBlock=some q->vO1.ownBlock≠some q
theorem VaI.start (h:IS C w vV vI vO z):VaI C w vV vO v z 0 (.slice none 0 0) w vI vO:=
 ⟨World.ownsRow_nil _ _ _ _,h,Tcs.refl _ _,λq hq=>.inl hq,λq hq=>by cases hq⟩
theorem VaI.past (hC:C.Ok) {z2:ES} {vI2 vO2:Value} (h0:IS C w vV vI0 vO z0) (h:VaI C w vV vO v z k av wr vI1 vO1) (hR:IS C w2 vV vI2 vO2 z2) (ht:Tcs (TEi C vO1) wr w2) (ho : ∀q,vO2.ownBlock=some q->vO1.ownBlock=some q∨wr.heap.size<=q):VaI C w vV vO v z2 k av w2 vI2 vO2:=by
 have hav:=λq (hq:av.ownBlock=some q)=>World.ownsRow.lt h.row q hq;obtain⟨p1,p2,p3⟩:=h0.hi hC;have hsz:=h.tc.size;refine⟨own_notU h.row ht (λq hq hT => ?_),hR,TEi.next h.tc ht h.oo,λq hq => ?_,λq hq e => ?_⟩
 ·have h1:=(hav q hq).1;rcases hT with rfl|hT|hT
  ·omega
  ·have:=(p2 q hT).1;omega
  ·exact h.ap q hq hT
 ·rcases ho q hq with h1|h1
  ·exact h.oo q h1
  ·exact .inr o_
 ·rcases ho q e with h1|h1
  ·exact h.ap q hq h1
  ·have:=(hav q hq).2;omega
theorem VaI.more (hC:C.Ok) (h0:IS C w vV vI0 vO z0) (h:VaI C w vV vO v z k av wr vI1 vO1) (hk:k<=1000) (hb:Below wr.heap.size wr w1) :
  ∃va vc w3,(Builtin.append_ #[26,26] 26 #[av,.slice (some ⟨w1.heap.size,0,none⟩) 1 1]).run prog (w1.alloc (.cells #[.int .i64 (v k)] 2))=.ok (.slice va (k+1) vc) w3/\VaI C w vV vO v z (k+1) (.slice va (k+1) vc) w3 vI1 vO1:=by
 have hsz:=h.tc.size;have hs1:=hb.size;obtain⟨va,vc,w3,r1,r2,r3,r4⟩:=app_i64 (ownB h.row hb) (v k) o_ o_;have hav:=λq (hq:av.ownBlock=some q)=>World.ownsRow.lt h.row q hq;obtain⟨p1,p2,p3⟩:=h0.hi hC;refine⟨va,vc,w3,r1,?_,(h.st.below hC hb).past hC r3 (λq hq=>⟨by have:=(hav q hq).1;omega,λe => ?_,h.ap q hq⟩),(h.tc.of_below hb).next r3 (λq hq=>.inr (hav q hq).1),h.oo,λq hq e => ?_⟩
 ·rw[argL_succ,List.map_append];exact r2
 ·have h1:=(hav q hq).1;rcases h0.var with ⟨e1,-⟩|⟨b,n,D,e1,h2,-⟩
  ·rw[e1] at e;cases e
  ·rw[e1] at e;cases e;have:=h2.lt
   omega
 ·rcases r4 q hq with h1|h1
  ·exact h.ap q h1 e
  ·have:=(World.ownsRow.lt h.st.out q e).2;omega
theorem VaI.ar (hC:C.Ok) (h0:IS C w vV vI0 vO z0) (h:VaI C w vV vO v z k av wr vI1 vO1):ArI C wr vO1 av (argL k v):=by
 obtain⟨p1,p2,p3⟩:=h0.hi hC;have hl:(argL k v).length=k:=argL_len k v;have hav:=λq (hq:av.ownBlock=some q)=>World.ownsRow.lt h.row q hq;have h0':=h.row;rcases h.row.2 with ⟨e,hz⟩|⟨g,cap,cur,e,h3,h4,h5⟩
 ·exact⟨none,0,by rw[e,hl,hz],by rw[hl,hz];exact n_,by omega,λhp=>absurd hp (by rw[hl];omega)⟩
 ·obtain⟨q1,q2,-⟩:=h5;unfold maxLen at q2;refine⟨_,cap,by rw[hl];exact e,by rw[hl];exact q1,q2,λhp=>⟨g,rfl,?_,λhT => ?_,λj hj => ?_⟩⟩
  ·exact (hav g (by rw[e];rfl)).2
  ·have h1:=(hav g (by rw[e];rfl)).1;rcases hT with hT|hT|hT
   ·omega
   ·have:=(p2 g hT).1;omega
   ·exact h.ap g (by rw[e];rfl) hT
  ·rw[e] at h0';have:=World.ownsRow.cells h0' (g:=g) rfl j (.int .i64 (argL k v)[j]) (by simp[hj])
   rwa [addrO,Nat.zero_add] at this
end
section
variable {C:IC} {n A j:Nat} {K:Nat->List Nd} {st:Nat->ES} {v:Nat->Int} {c:Int} {s':ES}
structure Ops (C:IC) (n:Nat) (A:Nat) (K:Nat->List Nd) (st:Nat->ES) (v:Nat->Int) (j:Nat) (c:Int) (s':ES):Prop where
 le:j<=A
 kid : ∀i,i<j->Ev C.t C.fr n (.e (K i)) (st i) (.val (v i)) (st (i+1))
 end':j<A->Ev C.t C.fr n (.e (K j)) (st j) (.out c) s'
 kn : ∀i,i<A->KnE C.t ((st 0).l.map Prod.fst) (K i)
 one : ∀i,i<A->oneB (K i)=true
 sm:A<=100
theorem Ops.l (h:Ops C n A K st v j c s') (h0:OkW (st 0)) : ∀i,i<=j->OkW (st i)/\(st i).l=(st 0).l/\∀k,k<i->inB (v k)
 | 0,_=>⟨h0,rfl,λk hk=>by omega⟩
 | i+1,hi=>by
  obtain⟨a1,a2,a3⟩:=h.l h0 i o_;obtain⟨b1,b2,b3⟩:=(h.kid i o_).inv a1 trivial;refine⟨b1,b3.2.2.2.trans a2,λk hk => ?_⟩;by_cases e:k=i
  ·subst e;exact b2 _ (.inl rfl)
  ·exact a3 k o_
def VaP (C:IC) (w:World) (vV:Option Nat) (vO:Value) (A:Nat) (st:Nat->ES) (v:Nat->Int) (j:Nat) (c:Int) (s':ES) (x:Ending) (w':World):Prop:=∃vI' vO',Tcs (TEi C vO) w w'/\(∀q,vO'.ownBlock=some q->vO.ownBlock=some q∨w.heap.size<=q) /\
 ((j=A/\∃a n cp,x=.returned (.tuple #[.slice a n cp,.int .i64 0])/\IS C w' vV vI' vO' (st A)/\ArI C w' vO' (.slice a n cp) (argL A v))∨(j<A/\x=.returned (.tuple #[.slice none 0 0,.int .i64 (c+1)])/\IS C w' vV vI' vO' s'))
theorem values_any (hC:C.Ok) (IH:ExI C n) (hO:Ops C n A K st v j c s') (hc:c=2∨c=3) (hsc:Scp C.t ((st 0).l.map Prod.fst)) {w:World} {vV:Option Nat} {vI vO ar:Value} {us:Nat->Value} (h:IS C w vV vI vO (st 0)) (hL:LsI C w vO ar A us) (hT : ∀i,i<A->Tv C.w0 C.S (us i) (K i)) :
  Calls prog 144 #[.pointer (some ⟨C.P,0,none⟩),ar] w λx w'=>VaP C w vV vO A st v j c s' x w':=by
 obtain⟨a,cap,rfl,hl1,hl2,hcells⟩:=hL;obtain⟨HIH,HO,HSc,H0,HCl,HTv,HC⟩:=h7 IH hO hsc h hcells hT hC;have hA:=hO.sm;have hjA:=hO.le;go_enter func144,ntmps144;go_wp2;go_loopw [11,4] (λi av wr=>∃(k:Nat) (xa:Option Addr) (xc:Nat) (vI1 vO1:Value),i=.int .i64 (k:Int)/\k<=j/\av=.slice xa k xc/\VaI C w vV vO v (st k) k av wr vI1 vO1) (λi _ _=>A-(RowKit.intOf i).toNat)
 case atStart=>exact⟨0,none,0,vI,vO,rfl,y_,rfl,VaI.start H0⟩
 case round=>
  obtain⟨k,xa,xc,vI1,vO1,rfl,hkj,rfl,hV⟩:=hrel;have HV:=hide hV;by_cases hlt:k<A
  ·have hki:(k:Int)<(A:Int):=by omega
   obtain⟨B,rfl,hBl,hBn,hBc⟩:=HCl o_;have hcB:wr.cell? ⟨B,k,none⟩=some (us k):=(c_ (a:=⟨B,k,none⟩) (hV.tc.block B hBl hBn)).trans (hBc k hlt);obtain⟨ok1,hl,hin⟩:=HO.o.l H0.o.ok k hkj;obtain⟨tu,xu,hu⟩:=(HTv k hlt).isI;have hTk:=HTv k hlt;rw[hu] at hcB hTk;have hcall : ∀(ri:ER) (si:ES),Ev C.t C.fr n (.e (K k)) (st k) ri si->Calls prog 177 #[.pointer (some ⟨C.P,0,none⟩),.iface tu xu] wr λx w'=>ExQ C wr vV vO1 ri si x w':=λri si hE=>HIH (K k) (st k) ri si hE (by rw[hl];exact HO.o.kn k hlt) (by rw[hl];exact HSc) (HO.o.one k hlt) wr vV vI1 vO1 (.iface tu xu) HV.o.st hTk;have HCa:=hide hcall;clear hcall hV hBc hTk hu ok1 hl;by_cases hj:k<j
   ·have HCv:=hide (HCa _ _ (HO.o.kid k hj));go_wp2_with fail;refine HCv.o.mono ?_;rintro x w2 ⟨vI2,vO2,rfl,hR,ht,ho⟩;have hV2:=HV.o.past HC H0 hR ht ho;obtain⟨W3,hW3⟩ : ∃W3,W3=w2.alloc (.cells #[.int .i64 0,.int .i64 (v k)] 75):=⟨_,rfl⟩;have hb3:Bl w2 W3:=by rw[hW3];exact r_.alloc n_ _
    have hx3:FrC W3 w2.heap.size [.int .i64 0,.int .i64 (v k)]:=by rw[hW3];exact box_fr w2 _ _ (by show 2<=1000;omega)
    obtain⟨va,vc,w4,r4,hV4⟩:=hV2.more HC H0 o_ hb3;obtain⟨Hr,HV4,HW3⟩:=h3 r4 hV4 hW3;have x0:=(hx3 0 _ rfl).1;have x1:=(hx3 1 _ rfl).1;obtain⟨B3,hB3⟩ : ∃B3,B3=w2.heap.size:=⟨_,rfl⟩;rw[<-hB3] at x0 x1;have HB3:=hide hB3;obtain⟨kk,hkk⟩ : ∃kk,kk=k+1:=⟨_,rfl⟩;rw[<-hkk] at Hr HV4;have HKk:=hide hkk;clear hR ht ho hV2 hW3 hb3 hx3 r4 hV4 hB3 hkk hcB;rw[show outV (.val (v k))=.agg #[.int .i64 0,.int .i64 (v k)] from rfl];go_upto_region 5 with fail;rw[<-HW3.o,<-HB3.o];generalize v k=vk at x0 x1 Hr ⊢;go_wp2_with (at_builtin;refine wpList_appG rfl (.tmp 23) (.tmp 26) _ rfl _ _ _ _ rfl rfl Hr ?_)
    go_roundw
    case rel=>
     have:=HV4.o
     rw[HKk.o] at this ⊢;exact⟨k+1,va,vc,vI2,vO2,by go_num,by omega,rfl,this⟩
    case measure=>simp[RowKit.intOf];omega
   ·obtain rfl:k=j:=by omega
    have HCv:=hide (HCa _ _ (HO.o.end' hlt));go_wp2_with fail;refine HCv.o.mono ?_;rintro x w2 ⟨vI2,vO2,rfl,hR,ht,ho⟩;have hV2:=HV.o.past HC H0 hR ht ho;obtain⟨W3,hW3⟩ : ∃W3,W3=w2.alloc (.cells #[.int .i64 (c+1),.int .i64 0] 75):=⟨_,rfl⟩;have hb3:Bl w2 W3:=by rw[hW3];exact r_.alloc n_ _
    have hx3:FrC W3 w2.heap.size [.int .i64 (c+1),.int .i64 0]:=by rw[hW3];exact box_fr w2 _ _ (by show 2<=1000;omega)
    have HW3:=hide hW3;have x0:=(hx3 0 _ rfl).1;obtain⟨B3,hB3⟩ : ∃B3,B3=w2.heap.size:=⟨_,rfl⟩;rw[<-hB3] at x0;have HB3:=hide hB3;have HFin:Hid (∀X,Bl W3 X->VaP C w vV vO A st v k c s' (.returned (.tuple #[.slice none 0 0,.int .i64 (c+1)])) X):=λX hX=>by
     have hb:Bl w2 X:=hb3.trans (hX.mono hb3.size);exact⟨vI2,vO2,hV2.tc.of_below hb,hV2.oo,.inr ⟨hlt,rfl,hV2.st.below HC hb⟩⟩
    rw[show outV (.out c)=.agg #[.int .i64 (c+1),.int .i64 0] from rfl];have hcn:((c+1) != 0)=true:=by simp;omega
    generalize c+1=c1 at x0 HFin HW3 hcn ⊢;clear hR ht ho hV2 hW3 hb3 hx3 hB3 hcB;go_upto_region 5 with fail;rw[<-HW3.o,<-HB3.o];go_wp2_with fail;go_quiet (fail)
    go_wp2_with fail;refine bodyPost_ret (v:=.tuple #[.slice none 0 0,.int .i64 c1]) (by simp[results,results144,go_sem]) rfl ?_;exact HFin _ ⟨rfl,rfl,rfl,n_,λ_ _=>rfl⟩
  ·obtain rfl:k=A:=by omega
   obtain rfl:k=j:=by omega
   have hki : ¬(k:Int)<(k:Int):=by omega
   have HFin:Hid (VaP C w vV vO k st v k c s' (.returned (.tuple #[.slice xa k xc,.int .i64 0])) wr):=⟨vI1,vO1,hV.tc,hV.oo,.inl ⟨rfl,xa,k,xc,rfl,hV.st,hV.ar HC H0⟩⟩;go_wp2_with fail;refine bodyPost_ret (v:=.tuple #[.slice xa k xc,.int .i64 0]) (by simp[results,results144,go_sem]) rfl ?_;exact HFin
end
section
variable {C:IC} {w:World} {vV:Option Nat} {vO:Value} {s2:ES}
theorem exq_fin (hC:C.Ok) {W0 w2 w3:World} {vI0 vI2 vO2:Value} {s0:ES} {M:Nat} (hM:M=w.heap.size) (h0:IS C w vV vI0 vO s0) (hb0:Below w.heap.size w W0) (hM0:M<W0.heap.size) (h:IS C w2 vV vI2 vO2 s2) (ht:Tcs (TEi C vO) W0 w2) (ho : ∀k,vO2.ownBlock=some k->vO.ownBlock=some k∨W0.heap.size<=k) (hb3:Below w2.heap.size w2 w3) {x0 x1:Value} (hf:FrC w3 M [x0,x1]) (r:ER) {a b:Int} (ha:endR r=a) (hb:valR r=b) :
  ((w3.setCell ⟨M,0,none⟩ (.int .i64 a)).setCell ⟨M,1,none⟩ (.int .i64 b)).cell? ⟨M,0,none⟩=some (.int .i64 a)/\((w3.setCell ⟨M,0,none⟩ (.int .i64 a)).setCell ⟨M,1,none⟩ (.int .i64 b)).cell? ⟨M,1,none⟩=some (.int .i64 b)/\ExQ C w vV vO r s2 (.returned (.agg #[.int .i64 a,.int .i64 b])) ((w3.setCell ⟨M,0,none⟩ (.int .i64 a)).setCell ⟨M,1,none⟩ (.int .i64 b)):=by
 have hF:=(hf.set 0 (.int .i64 a)).set 1 (.int .i64 b);have hT:Tcs (λk=>k=M) w3 ((w3.setCell ⟨M,0,none⟩ (.int .i64 a)).setCell ⟨M,1,none⟩ (.int .i64 b)):=(((Tcs.refl (λk=>k=M) w3).setCell (p:=⟨M,0,none⟩) rfl _).setCell (p:=⟨M,1,none⟩) rfl _);obtain⟨p1,p2,p3⟩:=h0.hi hC;refine⟨(hF 0 _ rfl).1,(hF 1 _ rfl).1,vI2,vO2,by rw[outV,ha,hb],(h.below hC hb3).past hC hT (λk hk => ?_),?_,λk hk => ?_⟩
 ·have e:k=M:=hk;subst e;refine⟨by omega,λe => ?_,λe => ?_⟩
  ·rcases h0.var with ⟨e1,-⟩|⟨q,n,D,e1,h2,-⟩
   ·rw[e1] at e;cases e
   ·rw[e1] at e;cases e;have:=h2.lt
    omega
  ·rcases ho k e with h1|h1
   ·have:=(World.ownsRow.lt h0.out k h1).2;omega
   ·omega
 ·exact (((hb0.tcs (S:=TEi C vO)).trans ht).of_below hb3).next hT (λk hk=>.inr (by have e:k=M:=hk;omega))
 ·rcases ho k hk with h1|h1
  ·exact .inl h1
  ·exact .inr (by have:=hb0.size;omega)
def Side (r1:ER) (s1:ES) (r2:ER) (s2:ES):Prop:=(∃c,r1=.out c/\r2=.out c/\s2=s1)∨∃x,r1=.val x/\((s1.u=0/\r2=.out 2/\s2=s1)∨(0<s1.u/\r2=.val (boolN (decide (x≠0)))/\s2=s1.sp))
theorem truthI_any (b:Bool) (w:World):Calls prog 205 #[.bool b] w λe w'=>e=.returned (.int .i64 (boolN b))/\w'=w:=by
 cases b
 ·go_enter func205,ntmps205;go_wp2;go_ret;exact⟨rfl,rfl⟩
 ·go_enter func205,ntmps205;go_wp2;go_ret;exact⟨rfl,rfl⟩
theorem truthOf_any (hC:C.Ok) {n:Nat} (IH:ExI C n) {e:List Nd} {s s1:ES} {r1 r2:ER} (hE:Ev C.t C.fr n (.e e) s r1 s1) (hS:Side r1 s1 r2 s2) (hkn:KnE C.t (s.l.map Prod.fst) e) (hsc:Scp C.t (s.l.map Prod.fst)) (h1B:oneB e=true) {vI vN:Value} (h:IS C w vV vI vO s) (hT:Tv C.w0 C.S vN e) :
  Calls prog 216 #[.pointer (some ⟨C.P,0,none⟩),vN] w λx w'=>ExQ C w vV vO r2 s2 x w':=by
 obtain⟨tn,xn,rfl⟩:=hT.isI;obtain⟨W0,M,hW0,hM,hb0,hx0,hM0⟩:=o_box w;obtain⟨HCl,H0,HC,HW0,HB0,HM,HX0,HS⟩:=h8 (IH e s r1 s1 hE hkn hsc h1B W0 vV vI vO _ (h.below hC hb0) hT) h hC hW0 hb0 hM hx0 hS;have HOc:=hide hE.outc;have hnM : ¬TEi C vO M:=λhk=>by have:=(TEi.lt hC h M hk).1;omega
 clear h hC IH hE hkn hsc h1B hT hW0 hb0 hM hx0 hS;go_enter func216,ntmps216;go_upto_region 1 with fail;rw[<-HW0.o,<-HM.o];go_wp2_with fail;refine HCl.o.mono ?_;rintro x w2 ⟨vI2,vO2,rfl,hR,ht,ho⟩;obtain⟨en,hen⟩ : ∃en,en=endR r1:=⟨_,rfl⟩;obtain⟨vv,hvv⟩ : ∃vv,vv=valR r1:=⟨_,rfl⟩;rw[show outV r1=.agg #[.int .i64 en,.int .i64 vv] by rw[hen,hvv];rfl];obtain⟨W3,hW3⟩ : ∃W3,W3=w2.alloc (.cells #[.int .i64 en,.int .i64 vv] 75):=⟨_,rfl⟩;have hb3:Bl w2 W3:=by rw[hW3];exact r_.alloc n_ _
 have hx3:FrC W3 w2.heap.size [.int .i64 en,.int .i64 vv]:=by rw[hW3];exact box_fr w2 _ _ (by show 2<=1000;omega)
 obtain⟨B3,hB3⟩ : ∃B3,B3=w2.heap.size:=⟨_,rfl⟩;rw[<-hB3] at hx3;have hf2:FrC w2 M [.int .i64 0,.int .i64 0]:=HX0.o.tcs hM0 ht hnM;have hB3M:B3≠M:=by have:=b_ (hf2 0 _ rfl).1;rw[hB3];exact λe=>by subst e;exact absurd this (Nat.lt_irrefl _)
 obtain⟨HX3,HF3,HR,Ht,Ho,HB3,HW3,Hb3,HEn,HVv⟩:=h10 hx3 (hf2.below hb3) hR ht ho hB3 hW3 hb3 hen hvv;clear hW3 hb3 hx3 hB3 hf2 hR ht ho hen hvv;have x0:=(HX3 0 _ rfl).1;have x1:=(HX3 1 _ rfl).1;have m0:=HF3 0 _ rfl;have m1:=HF3 1 _ rfl;obtain⟨y0,f0⟩:=m0;obtain⟨y1,f1⟩:=m1;go_upto_region 2 with fail;rw[<-HW3.o,<-HB3.o];rcases HS.o with ⟨c,e1,e2,e3⟩|⟨x,e1,hu⟩
 ·have hen:en=c+1:=by rw[HEn.o,e1];rfl
  have hvv:vv=0:=by rw[HVv.o,e1];rfl
  have hr1:endR r2=en:=by rw[e2,hen];rfl
  have hr2:valR r2=vv:=by rw[e2,hvv];rfl
  have hen0:(en != 0)=true:=by have:=HOc.o c e1;simp;omega
  have HFn:=hide (exq_fin HC HM H0 HB0 hM0 HR Ht Ho Hb3 HF3 r2 hr1 hr2);rw[<-e3] at HFn;clear hen hvv hr1 hr2 e1 e2 e3;go_wp2_with fail;obtain⟨t0,t1,hQ⟩:=HFn;exact bodyPost_ret (v:=.agg #[.int .i64 en,.int .i64 vv]) (by simp[results,results216,go_sem,t0,t1]) rfl hQ
 ·have hen:en=0:=by rw[HEn.o,e1];rfl
  have hvv:vv=x:=by rw[HVv.o,e1];rfl
  subst hen hvv;have hI3:=HR.o.below HC Hb3;rcases hu with ⟨hu,e2,e3⟩|⟨hu,e2,e3⟩
  ·obtain⟨HBu,HFn⟩:=h2 (burn_no hI3 hu) (exq_fin HC HM H0 HB0 hM0 HR Ht Ho Hb3 HF3 r2 (a:=3) (b:=0) (by rw[e2];rfl) (by rw[e2];rfl));rw[<-e3] at HFn;clear hI3 e1 e2 e3 hu;go_wp2_with fail;refine HBu.o.mono ?_;rintro e w4 ⟨rfl,hw4⟩;rw[hw4];clear hw4;go_wp2_with fail;obtain⟨t0,t1,hQ⟩:=HFn;exact bodyPost_ret (v:=.agg #[.int .i64 3,.int .i64 0]) (by simp[results,results216,go_sem,t0,t1]) rfl hQ
  ·have HBu:=hide (burn_yes HC hI3 hu);clear hI3 e1 hu;go_wp2_with fail;refine HBu.o.mono ?_;rintro e w4 ⟨rfl,hI4,ht4⟩;have hnB : ¬TEi C vO2 B3:=λhk=>by have:=(TEi.lt HC.o HR.o B3 hk).1;have:=HB3.o;omega
   have hnM2 : ¬TEi C vO2 M:=λhk=>by
    rcases hk with h1|h1|h1
    ·exact hnM (.inl h1)
    ·exact hnM (.inr (.inl h1))
    ·rcases Ho.o M h1 with h2|h2
     ·exact hnM (.inr (.inr h2))
     ·omega
   have hx4:=HX3.o.tcs (b_ x0) ht4 hnB;have hm4:=HF3.o.tcs (b_ y0) ht4 hnM2;have hT4:Tcs (TEi C vO) W0 w4:=TEi.next (Ht.o.of_below Hb3) ht4 Ho;have HFn:=hide (exq_fin HC HM H0 HB0 hM0 hI4 hT4 Ho r_ hm4 r2 (a:=0) (b:=boolN (decide (vv≠0))) (by rw[e2];rfl) (by rw[e2];rfl));rw[<-e3] at HFn;clear x0 x1 y0 y1 f0 f1 e2 e3 hI4 ht4 hT4;have x1:=(hx4 1 _ rfl).1;obtain⟨y0,f0⟩:=hm4 0 _ rfl;obtain⟨y1,f1⟩:=hm4 1 _ rfl;clear hx4 hm4;have hdec:decide (vv≠0)=(vv != 0):=by by_cases h:vv=0 <;> simp[h]
   rw[hdec] at HFn;go_wp2_with fail;refine (truthI_any _ w4).mono ?_;rintro e w5 ⟨rfl,hw5⟩;rw[hw5];clear hw5;generalize boolN (vv != 0)=q at HFn ⊢;go_wp2_with fail;obtain⟨t0,t1,hQ⟩:=HFn;exact bodyPost_ret (v:=.agg #[.int .i64 0,.int .i64 q]) (by simp[results,results216,go_sem,t0,t1]) rfl hQ
end
section
variable {n:Nat} {e:List Nd} {s s':ES} {r:ER}
theorem ev_two {t:Tr} {fr:List Int} (h:Ev t fr (n+1) (.e e) s r s') (hk:(rootN e).kind=8∨(rootN e).kind=9) : ∃b,Cut e 2 b/\∃r1 s1 r2 s2,Ev t fr n (.e (kid e b 0)) s r1 s1/\Side r1 s1 r2 s2 /\
  ((((∃c,r2=.out c/\c ≠ -1)∨∃q,r2=.val q/\((rootN e).kind=8/\q=0∨(rootN e).kind=9/\q≠0))/\r=r2/\s'=s2)∨∃q,r2=.val q/\((rootN e).kind=8/\q≠0∨(rootN e).kind=9/\q=0)/\∃r3 s3,Ev t fr n (.e (kid e b 1)) s2 r3 s3/\Side r3 s3 r s'):=by
 have bz : ∀ {x:Int},x=0->boolN (decide (x≠0))=0:=λh=>by simp[h,boolN]
 have bn : ∀ {x:Int},x≠0->boolN (decide (x≠0))≠0:=λh=>by simp[h,boolN]
 cases h using Ev_i with
 | kid _ _ A b st v j c _ h1 h2 h3 h4 h5 h6=>rcases hk with h|h <;> contradiction
 | dry _ _ A b st v h1 h2 h3 h4 h5=>rcases hk with h|h <;> contradiction
 | work _ _ A b st v h1 h2 h3 h4 h5 h6=>rcases hk with h|h <;> contradiction
 | call _ _ A b st v f _ _ h1 h2 h3 h4 h5 h6=>omega
 | left _ _ b _ c _ h1 h2 h3=>exact⟨b,h1,_,_,_,_,h3,.inl ⟨c,rfl,rfl,rfl⟩,.inl ⟨.inl ⟨c,rfl,by rcases h3.outc c rfl with h|h <;> omega⟩,rfl,rfl⟩⟩
 | ldry _ _ b _ x _ h1 h2 h3 h4=>exact⟨b,h1,_,_,_,_,h3,.inr ⟨x,rfl,.inl ⟨h4,rfl,rfl⟩⟩,.inl ⟨.inl ⟨2,rfl,by decide⟩,rfl,rfl⟩⟩
 | lone _ _ b _ x _ h1 h2 h3 h4=>exact⟨b,h1,_,_,_,_,h3,.inr ⟨x,rfl,.inr ⟨h4,rfl,rfl⟩⟩,.inl ⟨.inr ⟨_,rfl,h2.imp (λh=>⟨h.1,bz h.2⟩) (λh=>⟨h.1,bn h.2⟩)⟩,rfl,rfl⟩⟩
 | rigt _ _ b _ x s1 c _ h1 h2 h3 h4 h5=>exact⟨b,h1,_,_,_,_,h3,.inr ⟨x,rfl,.inr ⟨h4,rfl,rfl⟩⟩,.inr ⟨_,rfl,h2.imp (λh=>⟨h.1,bn h.2⟩) (λh=>⟨h.1,bz h.2⟩),_,_,h5,.inl ⟨c,rfl,rfl,rfl⟩⟩⟩
 | rdry _ _ b _ x s1 y _ h1 h2 h3 h4 h5 h6=>exact⟨b,h1,_,_,_,_,h3,.inr ⟨x,rfl,.inr ⟨h4,rfl,rfl⟩⟩,.inr ⟨_,rfl,h2.imp (λh=>⟨h.1,bn h.2⟩) (λh=>⟨h.1,bz h.2⟩),_,_,h5,.inr ⟨y,rfl,.inl ⟨h6,rfl,rfl⟩⟩⟩⟩
 | both _ _ b _ x s1 y _ h1 h2 h3 h4 h5 h6=>exact⟨b,h1,_,_,_,_,h3,.inr ⟨x,rfl,.inr ⟨h4,rfl,rfl⟩⟩,.inr ⟨_,rfl,h2.imp (λh=>⟨h.1,bn h.2⟩) (λh=>⟨h.1,bz h.2⟩),_,_,h5,.inr ⟨y,rfl,.inr ⟨h6,rfl,rfl⟩⟩⟩⟩
theorem Side.l {r1 r2:ER} {s1 s2:ES} (h:Side r1 s1 r2 s2):s2.l=s1.l:=by
 rcases h with ⟨c,-,-,rfl⟩|⟨x,-,⟨-,-,rfl⟩|⟨-,-,rfl⟩⟩ <;> rfl
theorem choice_any {C:IC} (hC:C.Ok) (IH:ExI C n) (hE:Ev C.t C.fr (n+1) (.e e) s r s') {tb:Bool} (hk:(rootN e).kind=8/\tb=true∨(rootN e).kind=9/\tb=false) (hkn:KnE C.t (s.l.map Prod.fst) e) (hsc:Scp C.t (s.l.map Prod.fst)) (h1B:oneB e=true) {w:World} {vV:Option Nat} {vI vO vx vy:Value} (h:IS C w vV vI vO s) (hT : ∀b,Cut e 2 b->Tv C.w0 C.S vx (kid e b 0)/\Tv C.w0 C.S vy (kid e b 1)) :
  Calls prog 202 #[.pointer (some ⟨C.P,0,none⟩),vx,vy,.bool tb] w λx w'=>ExQ C w vV vO r s' x w':=by
 obtain⟨b,hcut,r1,s1,r2,s2,hE1,hS1,hrest⟩:=ev_two hE (hk.imp (λh=>h.1) (λh=>h.1));obtain⟨hT0,hT1⟩:=hT b hcut;obtain⟨A',b',hcut',hone⟩:=one_cuts h1B;have hone' : ∀i,i<2->oneB (kid e b i)=true:=λi hi=>by
  obtain⟨rfl,hb⟩:=hcut.one hcut';have e1:kid e b i=kid e b' i:=by unfold kid;rw[hb i o_,hb (i+1) o_]
  rw[e1];exact hone i hi
 obtain⟨tx,xx,rfl⟩:=hT0.isI;obtain⟨ty,xy,rfl⟩:=hT1.isI;obtain⟨W0,M,hW0,hM,hb0,hx0,hM0⟩:=o_box w;have HCl:=hide (truthOf_any hC IH hE1 hS1 hkn.kid hsc (hone' 0 o_) (h.below hC hb0) hT0);have hl2:s2.l=s.l:=hS1.l.trans (hE1.inv h.ok trivial).2.2.2.2.2;have HC2:Hid (∀(X:World) (vI2 vO2:Value) r3 s3,IS C X vV vI2 vO2 s2->Ev C.t C.fr n (.e (kid e b 1)) s2 r3 s3->Side r3 s3 r s'->Calls prog 216 #[.pointer (some ⟨C.P,0,none⟩),.iface ty xy] X λx w'=>ExQ C X vV vO2 r s' x w'):=λX vI2 vO2 r3 s3 hX hE3 hS3=>truthOf_any hC IH hE3 hS3 (by rw[hl2];exact hkn.kid) (by rw[hl2];exact hsc) (hone' 1 o_) hX hT1;obtain⟨H0,HC,HW0,HB0,HM,HX0,HRest,HK⟩:=h8 h hC hW0 hb0 hM hx0 hrest hk;have hnM : ¬TEi C vO M:=λhk=>by have:=(TEi.lt hC h M hk).1;omega
 clear h hC IH hE hE1 hS1 hkn hsc h1B hT hW0 hb0 hM hx0 hrest hT0 hT1 hone hone' hcut hcut' hl2 hk;go_enter func202,ntmps202;go_upto_region 1 with fail;rw[<-HW0.o,<-HM.o];go_wp2_with fail;refine HCl.o.mono ?_;rintro x w2 ⟨vI2,vO2,rfl,hR,ht,ho⟩;obtain⟨en,hen⟩ : ∃en,en=endR r2:=⟨_,rfl⟩;obtain⟨vv,hvv⟩ : ∃vv,vv=valR r2:=⟨_,rfl⟩;rw[show outV r2=.agg #[.int .i64 en,.int .i64 vv] by rw[hen,hvv];rfl];obtain⟨W3,hW3⟩ : ∃W3,W3=w2.alloc (.cells #[.int .i64 en,.int .i64 vv] 75):=⟨_,rfl⟩;have hb3:Bl w2 W3:=by rw[hW3];exact r_.alloc n_ _
 have hx3:FrC W3 w2.heap.size [.int .i64 en,.int .i64 vv]:=by rw[hW3];exact box_fr w2 _ _ (by show 2<=1000;omega)
 obtain⟨B3,hB3⟩ : ∃B3,B3=w2.heap.size:=⟨_,rfl⟩;rw[<-hB3] at hx3;have hf2:FrC w2 M [.int .i64 0,.int .i64 0]:=HX0.o.tcs hM0 ht hnM;have hB3M:B3≠M:=by have:=b_ (hf2 0 _ rfl).1;rw[hB3];exact λe=>by subst e;exact absurd this (Nat.lt_irrefl _)
 obtain⟨HX3,HF3,HR,Ht,Ho,HB3,HW3,Hb3,HEn,HVv⟩:=h10 hx3 (hf2.below hb3) hR ht ho hB3 hW3 hb3 hen hvv;clear hW3 hb3 hx3 hB3 hf2 hR ht ho hen hvv;have x0:=(HX3 0 _ rfl).1;have x1:=(HX3 1 _ rfl).1;obtain⟨y0,f0⟩:=HF3 0 _ rfl;obtain⟨y1,f1⟩:=HF3 1 _ rfl;go_upto_region 2 with fail;rw[<-HW3.o,<-HB3.o];rcases HRest.o with ⟨hstop,e2,e3⟩|⟨q,e1,hq,r3,s3,hE3,hS3⟩
 ·have HFn:=hide (exq_fin HC HM H0 HB0 hM0 HR Ht Ho Hb3 HF3 r (a:=en) (b:=vv) (by rw[e2];exact HEn.o.symm) (by rw[e2];exact HVv.o.symm));rw[<-e3] at HFn;rcases hstop with ⟨c,e4,hc⟩|⟨q,e4,hq⟩
  ·have hen0:(en != 0)=true:=by
    have:en=c+1:=by rw[HEn.o,e4];rfl
    simp
    omega
   clear e2 e3 e4 hc;go_wp2_with fail;obtain⟨t0,t1,hQ⟩:=HFn;exact bodyPost_ret (v:=.agg #[.int .i64 en,.int .i64 vv]) (by simp[results,results202,go_sem,t0,t1]) rfl hQ
  ·have hen:en=0:=by rw[HEn.o,e4];rfl
   have hvv:vv=q:=by rw[HVv.o,e4];rfl
   have hne:(tb=true/\(vv != 0)=false)∨(tb=false/\(vv != 0)=true):=by
    rcases HK.o with ⟨k1,e5⟩|⟨k1,e5⟩
    ·refine .inl ⟨e5,?_⟩;have:vv=0:=by rw[hvv];omega
     simp[this]
    ·refine .inr ⟨e5,?_⟩;have:vv≠0:=by rw[hvv];omega
     simp[this]
   subst hen;clear e2 e3 e4 hq hvv HK;rcases hne with ⟨rfl,hz⟩|⟨rfl,hz⟩;all_goals (
    go_wp2_with fail;obtain⟨t0,t1,hQ⟩:=HFn;exact bodyPost_ret (v:=.agg #[.int .i64 0,.int .i64 vv]) (by simp[results,results202,go_sem,t0,t1]) rfl hQ)
 ·have hen:en=0:=by rw[HEn.o,e1];rfl
  have hvv:vv=q:=by rw[HVv.o,e1];rfl
  have hne:(tb=true/\(vv != 0)=true)∨(tb=false/\(vv != 0)=false):=by
   rcases HK.o with ⟨k1,e5⟩|⟨k1,e5⟩
   ·refine .inl ⟨e5,?_⟩;have:vv≠0:=by rw[hvv];omega
    simp[this]
   ·refine .inr ⟨e5,?_⟩;have:vv=0:=by rw[hvv];omega
    simp[this]
  subst hen;have HC3:=hide (HC2 W3 vI2 vO2 r3 s3 (HR.o.below HC Hb3) hE3 hS3);clear e1 hq hvv hE3 hS3 HC2 HK;rcases hne with ⟨rfl,hz⟩|⟨rfl,hz⟩;all_goals (
   go_wp2_with fail;refine HC3.o.mono ?_;rintro x w4 ⟨vI4,vO4,rfl,hR4,ht4,ho4⟩;have hnM2 : ¬TEi C vO2 M:=λhk=>by
    rcases hk with h1|h1|h1
    ·exact hnM (.inl h1)
    ·exact hnM (.inr (.inl h1))
    ·rcases Ho.o M h1 with h2|h2
     ·exact hnM (.inr (.inr h2))
     ·omega
   have hm4:=HF3.o.tcs (b_ y0) ht4 hnM2;have hT4:Tcs (TEi C vO) W0 w4:=TEi.next (Ht.o.of_below Hb3) ht4 Ho;have ho5 : ∀k,vO4.ownBlock=some k->vO.ownBlock=some k∨W0.heap.size<=k:=λk hk=>by
    rcases ho4 k hk with h1|h1
    ·exact Ho k h1
    ·have:=Ht.o.size;have:=Hb3.o.size;exact .inr o_
   obtain⟨e4,he4⟩ : ∃e4,e4=endR r:=⟨_,rfl⟩;obtain⟨v4,hv4⟩ : ∃v4,v4=valR r:=⟨_,rfl⟩;rw[show outV r=.agg #[.int .i64 e4,.int .i64 v4] by rw[he4,hv4];rfl];have HFn:=hide (exq_fin HC HM H0 HB0 hM0 hR4 hT4 ho5 r_ hm4 r he4.symm hv4.symm);clear x0 x1 y0 y1 f0 f1 hR4 ht4 hT4 ho4 ho5 he4 hv4;obtain⟨y0,f0⟩:=hm4 0 _ rfl;obtain⟨y1,f1⟩:=hm4 1 _ rfl;clear hm4;go_wp2_with fail;obtain⟨t0,t1,hQ⟩:=HFn;exact bodyPost_ret (v:=.agg #[.int .i64 e4,.int .i64 v4]) (by simp[results,results202,go_sem,t0,t1]) rfl hQ)
end
section
variable {C:IC} {w w':World} {vV:Option Nat} {vO vI va xu:Value} {r:ER} {s' s:ES} {vs:List Int} {nm:ByteArray} {k:Nat} {tu:TypeId} {v op:Int}
theorem as_in_yes (W:World) (v:Value):(Instr.typeAssert (.iface 277 v) 183 277 true).run prog W=.ok (.tuple #[v,.bool true]) W:=by kernel_rfl
theorem as_in_no (W:World) (u:TypeId) (v:Value) (h:u≠277):(Instr.typeAssert (.iface u v) 183 277 true).run prog W=.ok (.tuple #[.agg #[],.bool false]) W:=by
 have e:(Instr.typeAssert (.iface u v) 183 277 true).run prog W=(if u=277 then (pure (Value.tuple #[v,.bool true]):Sem Value) else (do pure (Value.tuple #[<-zeroValue 277,.bool false]))).run prog W:=by kernel_rfl
 rw[e,if_neg h];show _=_;kernel_rfl
theorem ExQ.drew (hC:C.Ok) {x:Ending} (h:ExQ C w vV vO r s' x w'):ExQ C w vV vO r s' x w'.drew:=by
 obtain⟨vI',vO',h1,h2,h3,h4⟩:=h;exact⟨vI',vO',h1,h2.below hC (r_.drew),h3.drew,h4⟩
theorem look_num1 {W:World} {b nn:Nat} {D:DataW Unit} {fs:List Fu} (hown:W.ownsMap prog 9 (plainElem (H:=Unit) prog 2) b nn D) (hN:NumIs D fs) {x:ByteArray} (hs:x.size<=maxLen) {g:Nat} (h:fnum fs x=some g) :
  (Instr.lookup 77 (.map (some b)) (.string x) false).run prog W=.ok (.int .i64 (g:Int)) W:=by
 obtain⟨c,hrun,hc,_⟩:=hown.lookup_int (Maps.string_keyed underlying9) underlying77 underlying2 (zeroValue2 _) (WideMaps.keyOf_string_mk underlying9 hs);rw[hN.val x g h] at hc;simp only[DataW.lit.injEq,Lit.int.injEq,true_and] at hc;subst hc;exact hrun
theorem ArI.below (hC:C.Ok) (h:ArI C w vO va vs) (h0:IS C w vV vI vO s) (hb:Below w.heap.size w w'):ArI C w' vO va vs:=by
 obtain⟨a,c,e,h1,h2,h3⟩:=h;refine⟨a,c,e,h1,h2,λhp => ?_⟩;obtain⟨b,hb',hl,hn,hc⟩:=h3 hp;exact⟨b,hb',by have:=hb.size;omega,hn,λj hj=>(hb.cell (p:=⟨b,j,none⟩) hl).trans (hc j hj)⟩
theorem work_pre (hC:C.Ok) (h:IS C w vV vI vO s) (cs:Array Value) (T:TypeId) (hcs:cs.size<=1000) : ∃W0 W1 M B,W0=w.alloc (.cells #[.int .i64 0,.int .i64 0] 75)/\W1=W0.alloc (.cells cs T)/\M=w.heap.size/\B=W0.heap.size/\Below w.heap.size w W0/\Below W0.heap.size W0 W1/\FrC W1 M [.int .i64 0,.int .i64 0]/\FrC W1 B cs.toList/\IS C W0 vV vI vO s/\IS C W1 vV vI vO s/\M<W0.heap.size/\M≠B/\¬TEi C vO M/\¬TEi C vO B/\B<W1.heap.size:=by
 obtain⟨W0,hW0⟩ : ∃W0,W0=w.alloc (.cells #[.int .i64 0,.int .i64 0] 75):=⟨_,rfl⟩;obtain⟨W1,hW1⟩ : ∃W1,W1=W0.alloc (.cells cs T):=⟨_,rfl⟩;have hb0:Bl w W0:=by rw[hW0];exact r_.alloc n_ _
 have hb1:Bl W0 W1:=by rw[hW1];exact r_.alloc n_ _
 have hx0:FrC W0 w.heap.size [.int .i64 0,.int .i64 0]:=by rw[hW0];exact box_fr w _ _ (by show 2<=1000;omega)
 have hx1:FrC W1 W0.heap.size cs.toList:=by rw[hW1];exact box_fr W0 _ _ hcs
 have hz0:W0.heap.size=w.heap.size+1:=by rw[hW0,World.size_alloc]
 have hz1:W1.heap.size=W0.heap.size+1:=by rw[hW1,World.size_alloc]
 exact⟨W0,W1,w.heap.size,W0.heap.size,hW0,hW1,rfl,rfl,hb0,hb1,hx0.below hb1,hx1,h.below hC hb0,(h.below hC hb0).below hC hb1,by omega,by omega,λhk=>by have:=(TEi.lt hC h _ hk).1;omega,λhk=>by have:=(TEi.lt hC h _ hk).1;omega,by omega⟩
theorem work_num (hC:C.Ok) (h:IS C w vV vI vO s) (v:Int) (va:Option Addr) (vn vc:Nat) :
  Calls prog 203 #[.pointer (some ⟨C.P,0,none⟩),.iface 236 (.agg #[.int .i64 v]),.slice va vn vc] w λx w'=>ExQ C w vV vO (.val v) s x w':=by
 obtain⟨W0,W1,M,B,hW0,hW1,hM,hB,hb0,hb1,hm,hx,hI0,hI1,hM0,hMB,hnM,hnB,hB1⟩:=work_pre hC h #[.int .i64 v] 236 (by show 1<=1000;omega);obtain⟨H0,HC,HW0,HW1,HM,HBe,Hb0,Hb1,HMf,HXf,HI0,HI1⟩:=h12 h hC hW0 hW1 hM hB hb0 hb1 hm hx hI0 hI1;have q1:=as_num_yes;obtain⟨y0,f0⟩:=hm 0 _ rfl;obtain⟨y1,f1⟩:=hm 1 _ rfl;clear h hC hW0 hW1 hM hB hb0 hb1 hm hx hI0 hI1;go_enter func203,ntmps203;go_upto_region 1 with fail;rw[<-HW0.o,<-HM.o];go_upto_region 4 with fail;rw[<-HW1.o,<-HBe.o];have HFn:=hide (exq_fin HC.o HM.o H0.o Hb0.o hM0 HI0.o (Tcs.refl _ _) (λk hk=>.inl hk) Hb1.o HMf.o (.val v) (a:=0) (b:=v) rfl rfl);have x0:=(HXf.o 0 _ rfl).1;go_wp2_with fail;obtain⟨t0,t1,hQ⟩:=HFn;exact bodyPost_ret (v:=.agg #[.int .i64 0,.int .i64 v]) (by simp[results,results203,go_sem,t0,t1]) rfl hQ
theorem work_var (hC:C.Ok) (h:IS C w vV vI vO s) (hsc:Scp C.t (s.l.map Prod.fst)) (hz:nm.size<=maxLen) (hx2:nm∈s.l.map Prod.fst∨(nm∉s.l.map Prod.fst/\globI C.t.globals nm=0)) (va:Option Addr) (vn vc:Nat) :
  Calls prog 203 #[.pointer (some ⟨C.P,0,none⟩),.iface 264 (.agg #[.string nm]),.slice va vn vc] w λx w'=>ExQ C w vV vO (.val (s.rd C.t nm)) s x w':=by
 obtain⟨W0,W1,M,B,hW0,hW1,hM,hB,hb0,hb1,hm,hx,hI0,hI1,hM0,hMB,hnM,hnB,hB1⟩:=work_pre hC h #[.string nm] 264 (by show 1<=1000;omega);obtain⟨H0,HC,HW0,HW1,HM,HBe,Hb0,Hb1,HMf,HXf,HI0,HI1⟩:=h12 h hC hW0 hW1 hM hB hb0 hb1 hm hx hI0 hI1;have q1:=λW v=>as_num_no W 264 v (by decide);have q2:=as_var_yes;have HG:=hide (get_any HC.o HI1.o hsc hz hx2);generalize s.rd C.t nm=v at HG ⊢;have HFn:=hide (exq_fin HC.o HM.o H0.o Hb0.o hM0 HI0.o (Tcs.refl _ _) (λk hk=>.inl hk) Hb1.o HMf.o (.val v) (a:=0) (b:=v) rfl rfl);obtain⟨y0,f0⟩:=hm 0 _ rfl;obtain⟨y1,f1⟩:=hm 1 _ rfl;clear h hC hW0 hW1 hM hB hb0 hb1 hm hx hI0 hI1;go_enter func203,ntmps203;go_upto_region 1 with fail;rw[<-HW0.o,<-HM.o];go_upto_region 7 with fail;rw[<-HW1.o,<-HBe.o];have x0:=(HXf.o 0 _ rfl).1;go_wp2_with fail;refine HG.o.mono ?_;rintro e w2 ⟨rfl,hw2⟩;rw[hw2];go_wp2_with fail;obtain⟨t0,t1,hQ⟩:=HFn;exact bodyPost_ret (v:=.agg #[.int .i64 0,.int .i64 v]) (by simp[results,results203,go_sem,t0,t1]) rfl hQ
theorem work_index (hC:C.Ok) (h:IS C w vV vI vO s) (hz:nm.size<=maxLen) (hk:k<C.t.globals.length) (hg:gix C.t.globals nm=some k) (hA:ArI C w vO va [v]) (hv:0<=v/\v<(s.ws C.t nm).length) :
  Calls prog 203 #[.pointer (some ⟨C.P,0,none⟩),.iface 266 (.agg #[.string nm,.iface tu xu]),va] w λx w'=>ExQ C w vV vO (.val ((s.ws C.t nm).getD v.toNat 0)) s x w':=by
 obtain⟨W0,W1,M,B,hW0,hW1,hM,hB,hb0,hb1,hm,hx,hI0,hI1,hM0,hMB,hnM,hnB,hB1⟩:=work_pre hC h #[.string nm,.iface tu xu] 266 (by show 2<=1000;omega);obtain⟨H0,HC,HW0,HW1,HM,HBe,Hb0,Hb1,HMf,HXf,HI0,HI1⟩:=h12 h hC hW0 hW1 hM hB hb0 hb1 hm hx hI0 hI1;have q1:=λW v=>as_num_no W 266 v (by decide);have q2:=λW v=>as_var_no W 266 v (by decide);have q3:=as_index_yes;obtain⟨av,cv,rfl,-,-,hA⟩:=hA;obtain⟨bv,rfl,hbv,hnv,hcv⟩:=hA (by simp);have hcv0:=hcv 0 (by simp);simp only[List.getElem_cons_zero,l_c,l_n,Nat.zero_add] at hcv0 ⊢;have hq:Bl w W1:=hb0.trans (hb1.mono hb0.size);have hav:W1.cell? ⟨bv,0,none⟩=some (.int .i64 v):=(hq.cell (p:=⟨bv,0,none⟩) hbv).trans hcv0;clear hcv hcv0 hA;have hws:s.ws C.t nm=s.g.getD k []:=by unfold ES.ws;rw[hg]
 rw[hws] at hv ⊢;obtain⟨b,hb,hbm,hlen,hf⟩:=HI1.o.word HC.o hk;have HE:Hid (Calls prog 146 #[.pointer (some ⟨C.P,0,none⟩),.string nm,.int .i64 v] W1.drew λe w'=>e=.returned (.pointer (some ⟨b,v.toNat,none⟩))/\w'=W1.drew):=by
  have:=elem_in HC.o (HI1.o.below HC.o (r_.drew)) hz hk hg (v:=v) (by rw[<-hlen];exact hv)
  rw[hb] at this;exact this
 have hc:=(hf v.toNat (.int .i64 ((s.g.getD k []).getD v.toNat 0)) (by
  generalize s.g.getD k []=ws at hv ⊢;rw[List.getElem?_map,List.getElem?_eq_getElem o_];simp[List.getD,show v.toNat<ws.length by omega])).1
 generalize (s.g.getD k []).getD v.toNat 0=vv at hc ⊢;generalize v.toNat=j at hc HE;have HFn:=hide (exq_fin HC.o HM.o H0.o Hb0.o hM0 HI0.o (Tcs.refl _ _) (λk hk=>.inl hk) Hb1.o HMf.o (.val vv) (a:=0) (b:=vv) rfl rfl);obtain⟨y0,f0⟩:=hm 0 _ rfl;obtain⟨y1,f1⟩:=hm 1 _ rfl;clear h hC hW0 hW1 hM hB hb0 hb1 hm hx hI0 hI1;go_enter func203,ntmps203;go_upto_region 1 with fail;rw[<-HW0.o,<-HM.o];go_upto_region 10 with fail;rw[<-HW1.o,<-HBe.o];have x0:=(HXf.o 0 _ rfl).1;have x0':W1.drew.cell? ⟨B,0,none⟩=some (.string nm):=x0;have hav':W1.drew.cell? ⟨bv,0,none⟩=some (.int .i64 v):=hav;go_region_held3 (λW=>W.cell? ⟨B,0,none⟩=some (.string nm)/\W.cell? ⟨bv,0,none⟩=some (.int .i64 v)) (go_simp)
  (first
  | ((with_reducible refine Calls.mono HE.o ?_);rintro e w2 ⟨rfl,rfl⟩))
 go_wp2_with fail;obtain⟨t0,t1,hQ⟩:=HFn;exact bodyPost_ret (v:=.agg #[.int .i64 0,.int .i64 vv]) (by simp[results,results203,go_sem,t0,t1]) rfl (hQ.drew HC)
theorem work_indexN (hC:C.Ok) (h:IS C w vV vI vO s) (hz:nm.size<=maxLen) (hk:k<C.t.globals.length) (hg:gix C.t.globals nm=some k) (hA:ArI C w vO va [v]) (hv : ¬(0<=v/\v<(s.ws C.t nm).length)) :
  Calls prog 203 #[.pointer (some ⟨C.P,0,none⟩),.iface 266 (.agg #[.string nm,.iface tu xu]),va] w λx w'=>ExQ C w vV vO (.out 3) s x w':=by
 obtain⟨W0,W1,M,B,hW0,hW1,hM,hB,hb0,hb1,hm,hx,hI0,hI1,hM0,hMB,hnM,hnB,hB1⟩:=work_pre hC h #[.string nm,.iface tu xu] 266 (by show 2<=1000;omega);obtain⟨H0,HC,HW0,HW1,HM,HBe,Hb0,Hb1,HMf,HXf,HI0,HI1⟩:=h12 h hC hW0 hW1 hM hB hb0 hb1 hm hx hI0 hI1;have q1:=λW v=>as_num_no W 266 v (by decide);have q2:=λW v=>as_var_no W 266 v (by decide);have q3:=as_index_yes;obtain⟨av,cv,rfl,-,-,hA⟩:=hA;obtain⟨bv,rfl,hbv,hnv,hcv⟩:=hA (by simp);have hcv0:=hcv 0 (by simp);simp only[List.getElem_cons_zero,l_c,l_n,Nat.zero_add] at hcv0 ⊢;have hq:Bl w W1:=hb0.trans (hb1.mono hb0.size);have hav:W1.cell? ⟨bv,0,none⟩=some (.int .i64 v):=(hq.cell (p:=⟨bv,0,none⟩) hbv).trans hcv0;clear hcv hcv0 hA;have hws:s.ws C.t nm=s.g.getD k []:=by unfold ES.ws;rw[hg]
 rw[hws] at hv;obtain⟨b,hb,hbm,hlen,hf⟩:=HI1.o.word HC.o hk;obtain⟨HE,HFn⟩:=h2 (elem_out HC.o (HI1.o.below HC.o (r_.drew)) hz hk hg (v:=v) (by rw[<-hlen];exact hv)) (exq_fin HC.o HM.o H0.o Hb0.o hM0 HI0.o (Tcs.refl _ _) (λk hk=>.inl hk) Hb1.o HMf.o (.out 3) (a:=4) (b:=0) rfl rfl);obtain⟨y0,f0⟩:=hm 0 _ rfl;obtain⟨y1,f1⟩:=hm 1 _ rfl;clear h hC hW0 hW1 hM hB hb0 hb1 hm hx hI0 hI1;go_enter func203,ntmps203;go_upto_region 1 with fail;rw[<-HW0.o,<-HM.o];go_upto_region 10 with fail;rw[<-HW1.o,<-HBe.o];have x0:=(HXf.o 0 _ rfl).1;have x0':W1.drew.cell? ⟨B,0,none⟩=some (.string nm):=x0;have hav':W1.drew.cell? ⟨bv,0,none⟩=some (.int .i64 v):=hav;go_region_held3 (λW=>W.cell? ⟨B,0,none⟩=some (.string nm)/\W.cell? ⟨bv,0,none⟩=some (.int .i64 v)) (go_simp)
  (first
  | ((with_reducible refine Calls.mono HE.o ?_);rintro e w2 ⟨rfl,rfl⟩))
 go_wp2_with fail;obtain⟨t0,t1,hQ⟩:=HFn;exact bodyPost_ret (v:=.agg #[.int .i64 4,.int .i64 0]) (by simp[results,results203,go_sem,t0,t1]) rfl (hQ.drew HC)
theorem work_inN (hC:C.Ok) (h:IS C w vV vI vO s) (hi:s.i = []) (va:Option Addr) (vn vc:Nat) :
  Calls prog 203 #[.pointer (some ⟨C.P,0,none⟩),.iface 277 (.agg #[]),.slice va vn vc] w λx w'=>ExQ C w vV vO (.val 0) s x w':=by
 obtain⟨W0,W1,M,B,hW0,hW1,hM,hB,hb0,hb1,hm,hx,hI0,hI1,hM0,hMB,hnM,hnB,hB1⟩:=work_pre hC h #[] 277 (by show 0<=1000;omega);obtain⟨H0,HC,HW0,HW1,HM,HBe,Hb0,Hb1,HMf,HXf,HI0,HI1⟩:=h12 h hC hW0 hW1 hM hB hb0 hb1 hm hx hI0 hI1;have q1:=λW v=>as_num_no W 277 v (by decide);have q2:=λW v=>as_var_no W 277 v (by decide);have q3:=λW v=>as_index_no W 277 v (by decide);have q4:=λW v=>as_call_no W 277 v (by decide);have q5:=as_in_yes;obtain⟨HG,HFn⟩:=h2 (input_no HC.o HI1.o hi) (exq_fin HC.o HM.o H0.o Hb0.o hM0 HI0.o (Tcs.refl _ _) (λk hk=>.inl hk) Hb1.o HMf.o (.val 0) (a:=0) (b:=0) rfl rfl);obtain⟨y0,f0⟩:=hm 0 _ rfl;obtain⟨y1,f1⟩:=hm 1 _ rfl;clear h hC hW0 hW1 hM hB hb0 hb1 hm hx hI0 hI1;go_enter func203,ntmps203;go_upto_region 1 with fail;rw[<-HW0.o,<-HM.o];go_upto_region 19 with fail;rw[<-HW1.o,<-HBe.o];go_wp2_with fail;refine HG.o.mono ?_;rintro e w2 ⟨rfl,hw2⟩;rw[hw2];go_wp2_with fail;obtain⟨t0,t1,hQ⟩:=HFn;exact bodyPost_ret (v:=.agg #[.int .i64 0,.int .i64 0]) (by simp[results,results203,go_sem,t0,t1]) rfl hQ
theorem work_in (hC:C.Ok) (h:IS C w vV vI vO s) {q:Int} {rst:List Int} (hi:s.i=q::rst) (va:Option Addr) (vn vc:Nat) :
  Calls prog 203 #[.pointer (some ⟨C.P,0,none⟩),.iface 277 (.agg #[]),.slice va vn vc] w λx w'=>ExQ C w vV vO (.val q) {s with i:=rst} x w':=by
 obtain⟨W0,W1,M,B,hW0,hW1,hM,hB,hb0,hb1,hm,hx,hI0,hI1,hM0,hMB,hnM,hnB,hB1⟩:=work_pre hC h #[] 277 (by show 0<=1000;omega);obtain⟨H0,HC,HW0,HW1,HM,HBe,Hb0,Hb1,HMf,HXf,HI0,HI1⟩:=h12 h hC hW0 hW1 hM hB hb0 hb1 hm hx hI0 hI1;have q1:=λW v=>as_num_no W 277 v (by decide);have q2:=λW v=>as_var_no W 277 v (by decide);have q3:=λW v=>as_index_no W 277 v (by decide);have q4:=λW v=>as_call_no W 277 v (by decide);have q5:=as_in_yes;have HG:=hide (input_yes HC.o HI1.o hi);obtain⟨y0,f0⟩:=hm 0 _ rfl;obtain⟨y1,f1⟩:=hm 1 _ rfl;clear h hC hW0 hW1 hM hB hb0 hb1 hm hx hI0 hI1;go_enter func203,ntmps203;go_upto_region 1 with fail;rw[<-HW0.o,<-HM.o];go_upto_region 19 with fail;rw[<-HW1.o,<-HBe.o];go_wp2_with fail;refine HG.o.mono ?_;rintro e w2 ⟨vI2,rfl,hI2,ht2⟩;have hm2:=HMf.o.tcs (b_ y0) ht2 hnM;have HFn:=hide (exq_fin HC.o HM.o H0.o Hb0.o hM0 hI2 (TEi.next (Hb1.o.tcs) ht2 (λk hk=>.inl hk)) (λk hk=>.inl hk) r_ hm2 (.val q) (a:=0) (b:=q) rfl rfl);obtain⟨y0,f0⟩:=hm2 0 _ rfl;obtain⟨y1,f1⟩:=hm2 1 _ rfl;clear hm2;go_wp2_with fail;obtain⟨t0,t1,hQ⟩:=HFn;exact bodyPost_ret (v:=.agg #[.int .i64 0,.int .i64 q]) (by simp[results,results203,go_sem,t0,t1]) rfl hQ
theorem work_un (hC:C.Ok) (h:IS C w vV vI vO s) (hop:0<=op/\op<=2) (hv:inB v) (hA:ArI C w vO va [v]) :
  Calls prog 203 #[.pointer (some ⟨C.P,0,none⟩),.iface 270 (.agg #[.int .i64 op,.iface tu xu]),va] w λx w'=>ExQ C w vV vO (.val (unN op v)) s x w':=by
 obtain⟨W0,W1,M,B,hW0,hW1,hM,hB,hb0,hb1,hm,hx,hI0,hI1,hM0,hMB,hnM,hnB,hB1⟩:=work_pre hC h #[.int .i64 op,.iface tu xu] 270 (by show 2<=1000;omega);obtain⟨H0,HC,HW0,HW1,HM,HBe,Hb0,Hb1,HMf,HXf,HI0,HI1⟩:=h12 h hC hW0 hW1 hM hB hb0 hb1 hm hx hI0 hI1;have q1:=λW v=>as_num_no W 270 v (by decide);have q2:=λW v=>as_var_no W 270 v (by decide);have q3:=λW v=>as_index_no W 270 v (by decide);have q4:=λW v=>as_call_no W 270 v (by decide);have q5:=λW v=>as_in_no W 270 v (by decide);have q6:=as_un_yes;obtain⟨av,cv,rfl,-,-,hA⟩:=hA;obtain⟨bv,rfl,hbv,hnv,hcv⟩:=hA (by simp);have hcv0:=hcv 0 (by simp);simp only[List.getElem_cons_zero,l_c,l_n,Nat.zero_add] at hcv0 ⊢;have hq:Bl w W1:=hb0.trans (hb1.mono hb0.size);have hav:W1.cell? ⟨bv,0,none⟩=some (.int .i64 v):=(hq.cell (p:=⟨bv,0,none⟩) hbv).trans hcv0;clear hcv hcv0 hA;have HU:=hide (unI_any op v hop.1 hop.2 hv W1.drew);generalize unN op v=q at HU ⊢;have HFn:=hide (exq_fin HC.o HM.o H0.o Hb0.o hM0 HI0.o (Tcs.refl _ _) (λk hk=>.inl hk) Hb1.o HMf.o (.val q) (a:=0) (b:=q) rfl rfl);have hbM : ¬bv=M:=λe=>by omega
 obtain⟨y0,f0⟩:=hm 0 _ rfl;obtain⟨y1,f1⟩:=hm 1 _ rfl;clear h hC hW0 hW1 hM hB hb0 hb1 hm hx hI0 hI1;go_enter func203,ntmps203;go_upto_region 1 with fail;rw[<-HW0.o,<-HM.o];go_upto_region 22 with fail;rw[<-HW1.o,<-HBe.o];have x0:=(HXf.o 0 _ rfl).1;have x0':W1.drew.cell? ⟨B,0,none⟩=some (.int .i64 op):=x0;have hav':W1.drew.cell? ⟨bv,0,none⟩=some (.int .i64 v):=hav;have y0':W1.drew.cell? ⟨M,0,none⟩=some (.int .i64 0):=y0;have y1':W1.drew.cell? ⟨M,1,none⟩=some (.int .i64 0):=y1;have f0':W1.drew.frozen? ⟨M,0,none⟩=false:=f0;have f1':W1.drew.frozen? ⟨M,1,none⟩=false:=f1;have hBM : ¬B=M:=λe=>hMB e.symm;go_region_held3 (λW=>W.cell? ⟨B,0,none⟩=some (.int .i64 op)/\W.cell? ⟨bv,0,none⟩=some (.int .i64 v)) (go_simp)
  (first
  | ((with_reducible refine Calls.mono HU.o ?_);rintro e w2 ⟨rfl,rfl⟩))
 go_wp2_with fail;obtain⟨t0,t1,hQ⟩:=HFn;exact bodyPost_ret (v:=.agg #[.int .i64 0,.int .i64 q]) (by simp[results,results203,go_sem,t0,t1]) rfl (hQ.drew HC)
theorem work_bin (hC:C.Ok) (h:IS C w vV vI vO s) {ty:TypeId} {xy:Value} {v2:Int} (hA:ArI C w vO va [v,v2]) :
  Calls prog 203 #[.pointer (some ⟨C.P,0,none⟩),.iface 272 (.agg #[.int .i64 op,.iface tu xu,.iface ty xy]),va] w λx w'=>ExQ C w vV vO (.val (apN op v v2)) s x w':=by
 obtain⟨W0,W1,M,B,hW0,hW1,hM,hB,hb0,hb1,hm,hx,hI0,hI1,hM0,hMB,hnM,hnB,hB1⟩:=work_pre hC h #[.int .i64 op,.iface tu xu,.iface ty xy] 272 (by show 3<=1000;omega);obtain⟨H0,HC,HW0,HW1,HM,HBe,Hb0,Hb1,HMf,HXf,HI0,HI1⟩:=h12 h hC hW0 hW1 hM hB hb0 hb1 hm hx hI0 hI1;have q1:=λW v=>as_num_no W 272 v (by decide);have q2:=λW v=>as_var_no W 272 v (by decide);have q3:=λW v=>as_index_no W 272 v (by decide);have q4:=λW v=>as_call_no W 272 v (by decide);have q5:=λW v=>as_in_no W 272 v (by decide);have q6:=λW v=>as_un_no W 272 v (by decide);have q7:=as_bin_yes;obtain⟨av,cv,rfl,-,-,hA⟩:=hA;obtain⟨bv,rfl,hbv,hnv,hcv⟩:=hA (by simp);have hcv0:=hcv 0 (by simp);have hcv1:=hcv 1 (by simp);simp only[List.getElem_cons_zero,List.getElem_cons_succ,l_c,l_n,Nat.zero_add] at hcv0 hcv1 ⊢;have hq:Bl w W1:=hb0.trans (hb1.mono hb0.size);have hav:W1.cell? ⟨bv,0,none⟩=some (.int .i64 v):=(hq.cell (p:=⟨bv,0,none⟩) hbv).trans hcv0;have hav1:W1.cell? ⟨bv,1,none⟩=some (.int .i64 v2):=(hq.cell (p:=⟨bv,1,none⟩) hbv).trans hcv1;clear hcv hcv0 hcv1 hA;have HU:=hide (ap_i op v v2 W1.drew);generalize apN op v v2=q at HU ⊢;have HFn:=hide (exq_fin HC.o HM.o H0.o Hb0.o hM0 HI0.o (Tcs.refl _ _) (λk hk=>.inl hk) Hb1.o HMf.o (.val q) (a:=0) (b:=q) rfl rfl);have hbM : ¬bv=M:=λe=>by omega
 obtain⟨y0,f0⟩:=hm 0 _ rfl;obtain⟨y1,f1⟩:=hm 1 _ rfl;clear h hC hW0 hW1 hM hB hb0 hb1 hm hx hI0 hI1;go_enter func203,ntmps203;go_upto_region 1 with fail;rw[<-HW0.o,<-HM.o];go_upto_region 25 with fail;rw[<-HW1.o,<-HBe.o];have x0:=(HXf.o 0 _ rfl).1;have x0':W1.drew.cell? ⟨B,0,none⟩=some (.int .i64 op):=x0;have hav':W1.drew.cell? ⟨bv,0,none⟩=some (.int .i64 v):=hav;have hav1':W1.drew.cell? ⟨bv,1,none⟩=some (.int .i64 v2):=hav1;have y0':W1.drew.cell? ⟨M,0,none⟩=some (.int .i64 0):=y0;have y1':W1.drew.cell? ⟨M,1,none⟩=some (.int .i64 0):=y1;have f0':W1.drew.frozen? ⟨M,0,none⟩=false:=f0;have f1':W1.drew.frozen? ⟨M,1,none⟩=false:=f1;have hBM : ¬B=M:=λe=>hMB e.symm;go_region_held3 (λW=>W.cell? ⟨B,0,none⟩=some (.int .i64 op)/\W.cell? ⟨bv,0,none⟩=some (.int .i64 v)/\W.cell? ⟨bv,1,none⟩=some (.int .i64 v2)) (go_simp)
  (first
  | ((with_reducible refine Calls.mono HU.o ?_);rintro e w2 ⟨rfl,rfl⟩))
 go_wp2_with fail;obtain⟨t0,t1,hQ⟩:=HFn;exact bodyPost_ret (v:=.agg #[.int .i64 0,.int .i64 q]) (by simp[results,results203,go_sem,t0,t1]) rfl (hQ.drew HC)
theorem work_call (hC:C.Ok) (h:IS C w vV vI vO s) (hz:nm.size<=maxLen) {f:Nat} (hf:fnum C.t.funcs nm=some f) {ra:Option Addr} {rn rc:Nat} {va:Option Addr} {vn vc:Nat} (hA:ArI C w vO (.slice va vn vc) vs) (hcall : ∀X,IS C X vV vI vO s->ArI C X vO (.slice va vn vc) vs->Calls prog 39 #[.pointer (some ⟨C.P,0,none⟩),.int .i64 (f:Int),.slice va vn vc] X λx w'=>ExQ C X vV vO r s' x w') :
  Calls prog 203 #[.pointer (some ⟨C.P,0,none⟩),.iface 268 (.agg #[.string nm,.slice ra rn rc]),.slice va vn vc] w λx w'=>ExQ C w vV vO r s' x w':=by
 obtain⟨W0,W1,M,B,hW0,hW1,hM,hB,hb0,hb1,hm,hx,hI0,hI1,hM0,hMB,hnM,hnB,hB1⟩:=work_pre hC h #[.string nm,.slice ra rn rc] 268 (by show 2<=1000;omega);obtain⟨H0,HC,HW0,HW1,HM,HBe,Hb0,Hb1,HMf,HXf,HI0,HI1⟩:=h12 h hC hW0 hW1 hM hB hb0 hb1 hm hx hI0 hI1;have q1:=λW v=>as_num_no W 268 v (by decide);have q2:=λW v=>as_var_no W 268 v (by decide);have q3:=λW v=>as_index_no W 268 v (by decide);have q4:=as_call_yes;have p2:=(hI1.box 2 _ rfl).1;obtain⟨nN,DN,hoN,hN⟩:=hI1.num hC;have hlk:(Instr.lookup 77 (.map (some C.bN)) (.string nm) false).run prog W1.drew=.ok (.int .i64 (f:Int)) W1.drew:=look_num1 hoN.drew hN hz hf;obtain⟨ea,hea⟩ : ∃ea,ea=endR r:=⟨_,rfl⟩;obtain⟨eb,heb⟩ : ∃eb,eb=valR r:=⟨_,rfl⟩;have HOv:Hid (outV r=.agg #[.int .i64 ea,.int .i64 eb]):=by show _=_;rw[hea,heb];rfl
 have hqd:Bl W1 W1.drew:=r_.drew;have hq:Bl w W1.drew:=hb0.trans ((hb1.trans (hqd.mono hb1.size)).mono hb0.size);have HCa:Hid (Calls prog 39 #[.pointer (some ⟨C.P,0,none⟩),.int .i64 (f:Int),.slice va vn vc] W1.drew λx w'=>x=.returned (outV r)/\(w'.cell? ⟨B,0,none⟩=some (.string nm)/\w'.cell? ⟨C.P,2,none⟩=some (.map (some C.bN))/\(Instr.lookup 77 (.map (some C.bN)) (.string nm) false).run prog w' = .ok (.int .i64 (f:Int)) w')/\(∀a b:Value,(Instr.lookup 77 (.map (some C.bN)) (.string nm) false).run prog ((w'.setCell ⟨M,0,none⟩ a).setCell ⟨M,1,none⟩ b)=.ok (.int .i64 (f:Int)) ((w'.setCell ⟨M,0,none⟩ a).setCell ⟨M,1,none⟩ b))/\FrC w' M [.int .i64 0,.int .i64 0]/\ExQ C W1.drew vV vO r s' x w'):=by
  refine (hcall W1.drew (hI1.below hC hqd) (hA.below hC h hq)).mono λx w' hE => ?_;obtain⟨vI',vO',e1,e2,e3,e4⟩:=hE;obtain⟨n3,D3,ho3,hN3⟩:=e2.num hC;exact⟨e1,⟨((hx.below hqd).tcs (by have:=hqd.size;omega) e3 hnB 0 _ rfl).1,(e2.box 2 _ rfl).1,look_num1 ho3 hN3 hz hf⟩,λa b=>look_num1 (map_tcs ho3 ((((Tcs.refl (λk=>k=M) w').setCell (p:=⟨M,0,none⟩) rfl a).setCell (p:=⟨M,1,none⟩) rfl b)) (λe=>by have e':C.bN=M:=e;have:=(hC.ne C.bN (.inl rfl)).1;have:=h.tc.size;omega)) hN3 hz hf,(hm.below hqd).tcs (b_ ((hm.below hqd) 0 _ rfl).1) e3 hnM,vI',vO',e1,e2,e3,e4⟩
 obtain⟨y0,f0⟩:=hm 0 _ rfl;obtain⟨y1,f1⟩:=hm 1 _ rfl;clear h hC hW0 hW1 hM hB hb0 hb1 hm hx hI0 hI1;go_enter func203,ntmps203;go_upto_region 1 with fail;rw[<-HW0.o,<-HM.o];go_upto_region 16 with fail;rw[<-HW1.o,<-HBe.o];have x0:=(HXf.o 0 _ rfl).1;have x0':W1.drew.cell? ⟨B,0,none⟩=some (.string nm):=x0;have p2':W1.drew.cell? ⟨C.P,2,none⟩=some (.map (some C.bN)):=p2;go_region_held3 (λW=>W.cell? ⟨B,0,none⟩=some (.string nm)/\W.cell? ⟨C.P,2,none⟩=some (.map (some C.bN))/\(Instr.lookup 77 (.map (some C.bN)) (.string nm) false).run prog W=.ok (.int .i64 (f:Int)) W) (go_simp)
  (first
  | ((with_reducible refine Calls.mono HCa.o ?_);rintro e w2 ⟨rfl,⟨s0,s1,s2⟩,s3,hm2,hR2⟩;have HR2:=hide hR2;have HM2:=hide hm2;obtain⟨z0,g0⟩:=hm2 0 _ rfl;obtain⟨z1,g1⟩:=hm2 1 _ rfl;have e1:outV r=.agg #[.int .i64 ea,.int .i64 eb]:=HOv))
 obtain⟨vI5,vO5,-,hI5,ht5,ho5⟩:=HR2;have hsd:W1.drew.heap.size=W1.heap.size:=rfl;have hT5:Tcs (TEi C vO) W0 w2:=(Hb1.o.tcs (S:=TEi C vO)).drew.trans ht5;have HFn:=hide (exq_fin HC.o HM.o H0.o Hb0.o hM0 hI5 hT5 (λk hk=>(ho5 k hk).imp id (λh=>by have:=Hb1.o.size;omega)) r_ HM2.o r (a:=endR r) (b:=valR r) rfl rfl);go_wp2_with fail;obtain⟨t0,t1,hQ⟩:=HFn;exact bodyPost_ret (v:=.agg #[.int .i64 (endR r),.int .i64 (valR r)]) (by simp[results,results203,go_sem,t0,t1]) rfl hQ
end
section
variable {C:IC} {w:World} {vO:Value} {n:Nat} {nd:Nd}
theorem lsI_nil (C:IC) (w:World) (vO:Value) (us:Nat->Value):LsI C w vO (.slice none 0 0) 0 us:=⟨none,0,rfl,n_,by omega,λh=>absurd h o_⟩
theorem lsI_lit {W:World} (hn : ∀k,TEi C vO k->k<w.heap.size) (hw:w.heap.size<=W.heap.size) (cs:Array Value) (T:TypeId) (us:Nat->Value) (hs:cs.size<=1000) (hc : ∀i,i<cs.size->cs.toList[i]? = some (us i)):LsI C (W.alloc (.cells cs T)) vO (.slice (some ⟨W.heap.size,0,none⟩) cs.size cs.size) cs.size us:=by
 refine⟨_,cs.size,rfl,n_,by omega,λ_=>⟨W.heap.size,rfl,by simp,λhk => ?_,λi hi => ?_⟩⟩
 ·have:=hn _ hk;omega
 ·exact (box_fr W cs T hs i _ (hc i hi)).1
def OpC (C:IC) (f:Nat) (x:Value) (A:Nat) (us:Nat->Value):Prop:=∀(w:World) (vV:Option Nat) (vI vO:Value) (s:ES),IS C w vV vI vO s->Calls prog f #[x] w λe w'=>∃a cp,e=.returned (.slice a A cp)/\LsI C w' vO (.slice a A cp) A us/\Below w.heap.size w w'
theorem opc_num (v:Int) (us:Nat->Value):OpC C 267 (.agg #[.int .i64 v]) 0 us:=by
 intro w vV vI vO s h;go_enter func267,ntmps267;go_wp2;go_ret;exact⟨_,_,rfl,lsI_nil _ _ _ _,r_.alloc n_ _⟩
theorem opc_var (v:ByteArray) (us:Nat->Value):OpC C 268 (.agg #[.string v]) 0 us:=by
 intro w vV vI vO s h;go_enter func268,ntmps268;go_wp2;go_ret;exact⟨_,_,rfl,lsI_nil _ _ _ _,r_.alloc n_ _⟩
theorem opc_in (us:Nat->Value):OpC C 275 (.agg #[]) 0 us:=by
 intro w vV vI vO s h;go_enter func275,ntmps275;go_wp2;go_ret;exact⟨_,_,rfl,lsI_nil _ _ _ _,r_.alloc n_ _⟩
theorem opc_index (hC:C.Ok) (nm:ByteArray) (t:TypeId) (x:Value) (us:Nat->Value) (hu:us 0=.iface t x):OpC C 269 (.agg #[.string nm,.iface t x]) 1 us:=by
 intro w vV vI vO s h;have hn:=λk hk=>(TEi.lt hC h k hk).1;have HL:=hide (lsI_lit (W:=w.alloc (.cells #[.string nm,.iface t x] 266)) hn (by simp) #[.iface t x] 183 us (by show 1<=1000;omega) (λi hi=>by
  have e:i=0:=by simpa using hi
  subst e;simp[hu]))
 simp only[World.size_alloc] at HL;go_enter func269,ntmps269;go_wp2;go_ret;exact⟨_,_,rfl,HL,(bel_a _ _).alloc (by simp) _⟩
theorem opc_un (hC:C.Ok) (op:Int) (t:TypeId) (x:Value) (us:Nat->Value) (hu:us 0=.iface t x):OpC C 271 (.agg #[.int .i64 op,.iface t x]) 1 us:=by
 intro w vV vI vO s h;have hn:=λk hk=>(TEi.lt hC h k hk).1;have HL:=hide (lsI_lit (W:=w.alloc (.cells #[.int .i64 op,.iface t x] 270)) hn (by simp) #[.iface t x] 183 us (by show 1<=1000;omega) (λi hi=>by
  have e:i=0:=by simpa using hi
  subst e;simp[hu]))
 simp only[World.size_alloc] at HL;go_enter func271,ntmps271;go_wp2;go_ret;exact⟨_,_,rfl,HL,(bel_a _ _).alloc (by simp) _⟩
theorem opc_bin (hC:C.Ok) (op:Int) (t:TypeId) (x:Value) (t2:TypeId) (x2:Value) (us:Nat->Value) (hu:us 0=.iface t x) (hu2:us 1=.iface t2 x2):OpC C 272 (.agg #[.int .i64 op,.iface t x,.iface t2 x2]) 2 us:=by
 intro w vV vI vO s h;have hn:=λk hk=>(TEi.lt hC h k hk).1;have HL:=hide (lsI_lit (W:=w.alloc (.cells #[.int .i64 op,.iface t x,.iface t2 x2] 272)) hn (by simp) #[.iface t x,.iface t2 x2] 183 us (by show 2<=1000;omega) (λi hi=>by
  have:i=0∨i=1:=by simp at hi;omega
  rcases this with rfl|rfl
  ·simp[hu]
  ·simp[hu2]))
 simp only[World.size_alloc] at HL;go_enter func272,ntmps272;go_wp2;go_ret;exact⟨_,_,rfl,HL,(bel_a _ _).alloc (by simp) _⟩
theorem opc_call (hC:C.Ok) (nm:ByteArray) (ar:Value) (A:Nat) (us:Nat->Value) (hA:Args C.w0 C.S ar A us):OpC C 270 (.agg #[.string nm,ar]) A us:=by
 intro w vV vI vO s h;obtain⟨a,cap,rfl,h1,h2,h3⟩:=hA;have HL:Hid (∀X,Bl w X->LsI C X vO (.slice a A cap) A us):=λX hX=>by
  refine⟨a,cap,rfl,h1,h2,λhp => ?_⟩;obtain⟨B,hB,hS,hc⟩:=h3 hp;obtain⟨q1,q2,q3⟩:=hC.sS B hS;have hsz:=h.tc.size;refine⟨B,hB,by have:=hX.size;omega,λhk => ?_,λi hi => ?_⟩
  ·rcases hk with hk|hk|hk
   ·exact q2 hk
   ·exact q3 hk
   ·have:=(World.ownsRow.lt h.out B hk).1;omega
  ·have e1:w.cell? ⟨B,i,none⟩=C.w0.cell? ⟨B,i,none⟩:=c_ (h.tc.block B q1 (λe=>e.elim q2 q3));exact (hX.cell (p:=⟨B,i,none⟩) (by show B<w.heap.size;omega)).trans (e1.trans (hc i hi))
 go_enter func270,ntmps270;go_wp2;go_ret;exact⟨_,_,rfl,HL _ (bel_a _ _),r_.alloc n_ _⟩
theorem max_small {s:ByteArray} (h:s.size<=n) (hn:n<=100000):s.size<=maxLen:=by unfold maxLen;omega
theorem gix_arr {sc:List ByteArray} (hkn:nodeE C.t sc nd=0) (hk:nd.kind=3) : ∃k,∃hk:k<C.t.globals.length,gix C.t.globals nd.name=some k:=by
 obtain⟨-,h2⟩:=node_arr hkn hk;obtain⟨k,hk,h1,-⟩:=gix_glob (gs:=C.t.globals) (x:=nd.name) o_;exact⟨k,hk,h1⟩
theorem workN_any (hC:C.Ok) {vV:Option Nat} {vI:Value} {s:ES} (h:IS C w vV vI vO s) (hsc:Scp C.t (s.l.map Prod.fst)) (hB:nodeB nd=true) (hkn:nodeE C.t (s.l.map Prod.fst) nd=0) {A:Nat} (hA:arity nd=A) {vN:Value} {us:Nat->Value} (hV:NdV C.w0 C.S vN nd A us) (h4:nd.kind≠4) (h8:nd.kind≠8) (h9:nd.kind≠9) (hus : ∀i,i<A->∃t x,us i=.iface t x) {vv:Nat->Int} {a:Option Addr} {c:Nat} (hAr:ArI C w vO (.slice a n c) (argL A vv)) (hin : ∀i,i<A->inB (vv i)) :
  Calls prog 203 #[.pointer (some ⟨C.P,0,none⟩),vN,.slice a n c] w λx w'=>ExQ C w vV vO (wkN C.t nd vv s).1 (wkN C.t nd vv s).2 x w':=by
 have hnm:=max_small (name_len hB) (by decide);have ar : ∀k,nd.kind=k->arity nd=(if k=3∨k=6 then 1 else if k=4 then nd.val else if k=7∨k=8∨k=9 then 2 else 0):=λk hk=>by rw[<-hk];rfl
 rcases hV with ⟨hk,rfl⟩|⟨hk,rfl⟩|⟨hk,rfl⟩|⟨hk,-⟩|⟨hk,rfl⟩|⟨hk,rfl⟩|⟨hk,rfl⟩|⟨hk,-⟩|⟨hk,-⟩
 ·have e:wkN C.t nd vv s=(.val nd.val,s):=by simp[wkN,hk]
  rw[e];exact work_num hC h nd.val a n c
 ·have e:wkN C.t nd vv s=(.val (s.rd C.t nd.name),s):=by simp[wkN,hk]
  rw[e];exact work_var hC h hsc hnm (node_var hkn hk) a n c
 ·have hA1:A=1:=by have:=ar 3 hk;simp at this;omega
  subst hA1;obtain⟨t,x,hu⟩:=hus 0 o_;obtain⟨k,hkl,hg⟩:=gix_arr hkn hk;rw[show argL 1 vv = [vv 0] by simp[argL]] at hAr;rw[hu];by_cases hv:0<=vv 0/\vv 0<(s.ws C.t nd.name).length
  ·have e:wkN C.t nd vv s=(.val ((s.ws C.t nd.name).getD (vv 0).toNat 0),s):=by simp only[wkN,hk];simp[hv]
   rw[e];exact work_index hC h hnm hkl hg hAr hv
  ·have e:wkN C.t nd vv s=(.out 3,s):=by simp only[wkN,hk];simp;intro h1;omega
   rw[e];exact work_indexN hC h hnm hkl hg hAr hv
 ·exact absurd hk h4
 ·cases hi:s.i with
  | nil=>
   have e:wkN C.t nd vv s=(.val 0,s):=by simp[wkN,hk,hi]
   rw[e];exact work_inN hC h hi a n c
  | cons q r=>
   have e:wkN C.t nd vv s=(.val q,{s with i:=r}):=by simp[wkN,hk,hi]
   rw[e];exact work_in hC h hi a n c
 ·have hA1:A=1:=by have:=ar 6 hk;simp at this;omega
  subst hA1;obtain⟨t,x,hu⟩:=hus 0 o_;rw[show argL 1 vv = [vv 0] by simp[argL]] at hAr;rw[hu];have e:wkN C.t nd vv s=(.val (unN nd.val (vv 0)),s):=by simp[wkN,hk]
  rw[e];exact work_un hC h (by unfold nodeB at hB;simp[hk] at hB;omega) (hin 0 o_) hAr
 ·have hA1:A=2:=by have:=ar 7 hk;simp at this;omega
  subst hA1;obtain⟨t,x,hu⟩:=hus 0 o_;obtain⟨t2,x2,hu2⟩:=hus 1 o_;rw[show argL 2 vv = [vv 0,vv 1] by simp[argL,List.range_succ]] at hAr;rw[hu,hu2];have e:wkN C.t nd vv s=(.val (apN nd.val (vv 0) (vv 1)),s):=by simp[wkN,hk]
  rw[e];exact work_bin hC h hAr
 ·exact absurd hk h8
 ·exact absurd hk h9
end
section
variable {C:IC} {w:World} {vO:Value}
theorem ArI.tcs {w':World} {va:Value} {vs:List Int} (h:ArI C w vO va vs) (ht:Tcs (TEi C vO) w w'):ArI C w' vO va vs:=by
 obtain⟨a,c,e,h1,h2,h3⟩:=h;refine⟨a,c,e,h1,h2,λhp => ?_⟩;obtain⟨b,hb',hl,hn,hc⟩:=h3 hp;exact⟨b,hb',by have:=ht.size;omega,hn,λj hj=>(c_ (a:=⟨b,j,none⟩) (ht.block b hl hn)).trans (hc j hj)⟩
def OpF (t:TypeId) (x:Value) (f:Nat):Prop:=(∀W:World,(method 460 t x "loop.example/s01725/impl.operands").run prog W=.ok (f,x) W)/\∀(y:Value) (W:World),(callFunc f #[y]).run prog W=.ok (.enter f #[y]) W
theorem value_plain (hC:C.Ok) {vV:Option Nat} {vI:Value} {A j:Nat} {st:Nat->ES} {v:Nat->Int} {c:Int} {s1 s':ES} {r:ER} {us:Nat->Value} (h:IS C w vV vI vO (st 0)) {t:TypeId} {x:Value} {f:Nat} (h1:t≠274) (h2:t≠275) (hF:OpF t x f) (hO:OpC C f x A us) (hc:c=2∨c=3)
  (hVa : ∀(X:World) (ar:Value),IS C X vV vI vO (st 0)->LsI C X vO ar A us->Calls prog 144 #[.pointer (some ⟨C.P,0,none⟩),ar] X λx w'=>VaP C X vV vO A st v j c s1 x w')
  (hend:(j<A/\r=.out c/\s'=s1)∨(j=A/\(st A).u=0/\r=.out 2/\s'=st A)∨(j=A/\0<(st A).u/\∀(X:World) (vI2 vO2:Value) (a:Option Addr) (n cp:Nat),IS C X vV vI2 vO2 (st A).sp->ArI C X vO2 (.slice a n cp) (argL A v)->(st A).n+1000000000*((st A).u:Int)<=100001000000000->Calls prog 203 #[.pointer (some ⟨C.P,0,none⟩),.iface t x,.slice a n cp] X λx w'=>ExQ C X vV vO2 r s' x w')) :
  Calls prog 177 #[.pointer (some ⟨C.P,0,none⟩),.iface t x] w λx w'=>ExQ C w vV vO r s' x w':=by
 have n1:=λW=>as_and_no W t x h1;have n2:=λW=>as_or_no W t x h2;obtain⟨hm,hcf⟩:=hF;obtain⟨W0,M,hW0,hM,hb0,hx0,hM0⟩:=o_box w;have hI0:=h.below hC hb0;obtain⟨HOp,HI0,H0,HC,HW0,HB0,HM,HX0,HVa,HEnd⟩:=h10 (hO W0 vV vI vO (st 0) hI0) hI0 h hC hW0 hb0 hM hx0 hVa hend;have hnM : ¬TEi C vO M:=λhk=>by have:=(TEi.lt hC h M hk).1;omega
 clear h hC hO hVa hend hW0 hb0 hM hx0 hI0 h1 h2;go_enter func177,ntmps177;go_upto_region 1 with fail;rw[<-HW0.o,<-HM.o];go_wp2_with fail;refine HOp.o.mono ?_;rintro e w1 ⟨a,cp,rfl,hL,hb1⟩;obtain⟨HV1,HX1,Hb1⟩:=h3 (HVa w1 _ (HI0.o.below HC hb1) hL) (HX0.o.below hb1) hb1;clear hL hb1 HVa HOp;go_wp2_with fail;refine HV1.o.mono ?_;rintro e w2 ⟨vI2,vO2,ht2,ho2,hcase⟩;have hm2:FrC w2 M [.int .i64 0,.int .i64 0]:=HX1.o.tcs (by have:=Hb1.o.size;omega) ht2 hnM;have Ht2:Hid (Tcs (TEi C vO) W0 w2):=(Hb1.o.tcs (S:=TEi C vO)).trans ht2;have Ho2:Hid (∀q,vO2.ownBlock=some q->vO.ownBlock=some q∨W0.heap.size<=q):=λq hq=>(ho2 q hq).imp id (λh=>by have:=Hb1.o.size;omega);obtain⟨y0,f0⟩:=hm2 0 _ rfl;obtain⟨y1,f1⟩:=hm2 1 _ rfl;have HM2:=hide hm2;clear ht2 ho2 hm2 HV1;rcases hcase with ⟨hj,a2,n2',c2,rfl,hI2,hA2⟩|⟨hj,rfl,hI2⟩
 ·obtain⟨HI2,HA2⟩:=h2 hI2 hA2;rcases HEnd.o with ⟨hj2,-⟩|⟨-,hu,e1,e2⟩|⟨-,hu,hwk⟩
  ·omega
  ·obtain⟨HBu,HFn⟩:=h2 (burn_no hI2 hu) (exq_fin HC HM H0 HB0 hM0 hI2 Ht2 Ho2 r_ HM2 r (a:=3) (b:=0) (by rw[e1];rfl) (by rw[e1];rfl));rw[<-e2] at HFn;clear hI2 hA2 hu e1 e2;go_wp2_with fail;refine HBu.o.mono ?_;rintro e w3 ⟨rfl,hw3⟩;rw[hw3];clear hw3;go_wp2_with fail;obtain⟨t0,t1,hQ⟩:=HFn;exact bodyPost_ret (v:=.agg #[.int .i64 3,.int .i64 0]) (by simp[results,results177,go_sem,t0,t1]) rfl hQ
  ·obtain⟨HBu,HWk⟩:=h2 (burn_yes HC hI2 hu) hwk;clear hI2 hA2 hu hwk;go_wp2_with fail;refine HBu.o.mono ?_;rintro e w3 ⟨rfl,hI3,ht3⟩;have hnM2 : ¬TEi C vO2 M:=λhk=>by
    rcases hk with h1|h1|h1
    ·exact hnM (.inl h1)
    ·exact hnM (.inr (.inl h1))
    ·rcases Ho2.o M h1 with h2|h2
     ·exact hnM (.inr (.inr h2))
     ·omega
   have hm3:=HM2.o.tcs (b_ y0) ht3 hnM2;have HW3:=hide (HWk w3 vI2 vO2 a2 n2' c2 hI3 (HA2.o.tcs ht3) HI2.o.nn.2.1);have Ht3:Hid (Tcs (TEi C vO) W0 w3):=TEi.next Ht2 ht3 Ho2;obtain⟨HM3,HnM2⟩:=h2 hm3 hnM2;have hs3:W0.heap.size<=w3.heap.size:=Ht3.o.size;clear hI3 ht3 hm3 y0 y1 f0 f1 hnM2;go_wp2_with fail;refine HW3.o.mono ?_;rintro e w4 ⟨vI4,vO4,rfl,hI4,ht4,ho4⟩;have hm4:=HM3.o.tcs (b_ (HM3 0 _ rfl).1) ht4 HnM2;have hT4:Tcs (TEi C vO) W0 w4:=TEi.next Ht3 ht4 Ho2;have ho5 : ∀k,vO4.ownBlock=some k->vO.ownBlock=some k∨W0.heap.size<=k:=λk hk=>by
    rcases ho4 k hk with h1|h1
    ·exact Ho2 k h1
    ·exact .inr o_
   obtain⟨e4,he4⟩ : ∃e4,e4=endR r:=⟨_,rfl⟩;obtain⟨v4,hv4⟩ : ∃v4,v4=valR r:=⟨_,rfl⟩;rw[show outV r=.agg #[.int .i64 e4,.int .i64 v4] by rw[he4,hv4];rfl];have HFn:=hide (exq_fin HC HM H0 HB0 hM0 hI4 hT4 ho5 r_ hm4 r he4.symm hv4.symm);clear hI4 ht4 hT4 ho4 ho5 he4 hv4;obtain⟨y0,f0⟩:=hm4 0 _ rfl;obtain⟨y1,f1⟩:=hm4 1 _ rfl;clear hm4;go_wp2_with fail;obtain⟨t0,t1,hQ⟩:=HFn;exact bodyPost_ret (v:=.agg #[.int .i64 e4,.int .i64 v4]) (by simp[results,results177,go_sem,t0,t1]) rfl hQ
 ·have hcn:((c+1) != 0)=true:=by simp;omega
  rcases HEnd.o with ⟨-,e1,e2⟩|⟨hj2,-⟩|⟨hj2,-⟩
  ·have HFn:=hide (exq_fin HC HM H0 HB0 hM0 hI2 Ht2 Ho2 r_ HM2 r (a:=c+1) (b:=0) (by rw[e1];rfl) (by rw[e1];rfl));rw[<-e2] at HFn;generalize c+1=c1 at HFn hcn ⊢;clear hI2 e1 e2;go_wp2_with fail;obtain⟨t0,t1,hQ⟩:=HFn;exact bodyPost_ret (v:=.agg #[.int .i64 c1,.int .i64 0]) (by simp[results,results177,go_sem,t0,t1]) rfl hQ
  ·omega
  ·omega
end
section
variable {C:IC} {w:World} {vV:Option Nat} {vI vO xx xy:Value} {s s':ES} {r:ER} {tx ty:TypeId}
theorem value_and (hC:C.Ok) (h:IS C w vV vI vO s) (hch : ∀X,IS C X vV vI vO s->Calls prog 202 #[.pointer (some ⟨C.P,0,none⟩),.iface tx xx,.iface ty xy,.bool true] X λx w'=>ExQ C X vV vO r s' x w') :
  Calls prog 177 #[.pointer (some ⟨C.P,0,none⟩),.iface 274 (.agg #[.iface tx xx,.iface ty xy])] w λx w'=>ExQ C w vV vO r s' x w':=by
 obtain⟨W0,W1,M,B,hW0,hW1,hM,hB,hb0,hb1,hm,hx,hI0,hI1,hM0,hMB,hnM,hnB,hB1⟩:=work_pre hC h #[.iface tx xx,.iface ty xy] 274 (by show 2<=1000;omega);obtain⟨H0,HC,HW0,HW1,HM,HBe,Hb0,Hb1,HMf,HXf,HCh⟩:=h11 h hC hW0 hW1 hM hB hb0 hb1 hm hx (hch W1 hI1);have q1:=as_and_yes;clear h hC hch hW0 hW1 hM hB hb0 hb1 hm hx hI0 hI1;have x0:=(HXf 0 _ rfl).1;have x1:=(HXf 1 _ rfl).1;go_enter func177,ntmps177;go_upto_region 1 with fail;rw[<-HW0.o,<-HM.o];go_upto_region 4 with fail;rw[<-HW1.o,<-HBe.o];go_wp2_with fail;refine HCh.o.mono ?_;rintro e w4 ⟨vI4,vO4,rfl,hI4,ht4,ho4⟩;have hm4:=HMf.o.tcs (b_ (HMf 0 _ rfl).1) ht4 hnM;have hT4:Tcs (TEi C vO) W0 w4:=(Hb1.o.tcs (S:=TEi C vO)).trans ht4;have ho5 : ∀k,vO4.ownBlock=some k->vO.ownBlock=some k∨W0.heap.size<=k:=λk hk=>(ho4 k hk).imp id (λh=>by have:=Hb1.o.size;omega);obtain⟨e4,he4⟩ : ∃e4,e4=endR r:=⟨_,rfl⟩;obtain⟨v4,hv4⟩ : ∃v4,v4=valR r:=⟨_,rfl⟩;rw[show outV r=.agg #[.int .i64 e4,.int .i64 v4] by rw[he4,hv4];rfl];have HFn:=hide (exq_fin HC HM H0 Hb0 hM0 hI4 hT4 ho5 r_ hm4 r he4.symm hv4.symm);clear hI4 ht4 hT4 ho4 ho5 he4 hv4 x0 x1;obtain⟨y0,f0⟩:=hm4 0 _ rfl;obtain⟨y1,f1⟩:=hm4 1 _ rfl;clear hm4;go_wp2_with fail;obtain⟨t0,t1,hQ⟩:=HFn;exact bodyPost_ret (v:=.agg #[.int .i64 e4,.int .i64 v4]) (by simp[results,results177,go_sem,t0,t1]) rfl hQ
theorem value_or (hC:C.Ok) (h:IS C w vV vI vO s) (hch : ∀X,IS C X vV vI vO s->Calls prog 202 #[.pointer (some ⟨C.P,0,none⟩),.iface tx xx,.iface ty xy,.bool false] X λx w'=>ExQ C X vV vO r s' x w') :
  Calls prog 177 #[.pointer (some ⟨C.P,0,none⟩),.iface 275 (.agg #[.iface tx xx,.iface ty xy])] w λx w'=>ExQ C w vV vO r s' x w':=by
 obtain⟨W0,W1,M,B,hW0,hW1,hM,hB,hb0,hb1,hm,hx,hI0,hI1,hM0,hMB,hnM,hnB,hB1⟩:=work_pre hC h #[.iface tx xx,.iface ty xy] 275 (by show 2<=1000;omega);obtain⟨H0,HC,HW0,HW1,HM,HBe,Hb0,Hb1,HMf,HXf,HCh⟩:=h11 h hC hW0 hW1 hM hB hb0 hb1 hm hx (hch W1 hI1);have q1:=λW v=>as_and_no W 275 v (by decide);have q2:=as_or_yes;clear h hC hch hW0 hW1 hM hB hb0 hb1 hm hx hI0 hI1;have x0:=(HXf 0 _ rfl).1;have x1:=(HXf 1 _ rfl).1;go_enter func177,ntmps177;go_upto_region 1 with fail;rw[<-HW0.o,<-HM.o];go_upto_region 7 with fail;rw[<-HW1.o,<-HBe.o];go_wp2_with fail;refine HCh.o.mono ?_;rintro e w4 ⟨vI4,vO4,rfl,hI4,ht4,ho4⟩;have hm4:=HMf.o.tcs (b_ (HMf 0 _ rfl).1) ht4 hnM;have hT4:Tcs (TEi C vO) W0 w4:=(Hb1.o.tcs (S:=TEi C vO)).trans ht4;have ho5 : ∀k,vO4.ownBlock=some k->vO.ownBlock=some k∨W0.heap.size<=k:=λk hk=>(ho4 k hk).imp id (λh=>by have:=Hb1.o.size;omega);obtain⟨e4,he4⟩ : ∃e4,e4=endR r:=⟨_,rfl⟩;obtain⟨v4,hv4⟩ : ∃v4,v4=valR r:=⟨_,rfl⟩;rw[show outV r=.agg #[.int .i64 e4,.int .i64 v4] by rw[he4,hv4];rfl];have HFn:=hide (exq_fin HC HM H0 Hb0 hM0 hI4 hT4 ho5 r_ hm4 r he4.symm hv4.symm);clear hI4 ht4 hT4 ho4 ho5 he4 hv4 x0 x1;obtain⟨y0,f0⟩:=hm4 0 _ rfl;obtain⟨y1,f1⟩:=hm4 1 _ rfl;clear hm4;go_wp2_with fail;obtain⟨t0,t1,hQ⟩:=HFn;exact bodyPost_ret (v:=.agg #[.int .i64 e4,.int .i64 v4]) (by simp[results,results177,go_sem,t0,t1]) rfl hQ
theorem opf (t:TypeId) (x:Value) (f:Nat) (h1 : ∀W:World,(method 460 t x "loop.example/s01725/impl.operands").run prog W=.ok (f,x) W) (h2 : ∀(y:Value) (W:World),(callFunc f #[y]).run prog W=.ok (.enter f #[y]) W):OpF t x f:=⟨h1,h2⟩
theorem node_ops (hC:C.Ok) {nd:Nd} {A:Nat} {vN:Value} {us:Nat->Value} (hA:arity nd=A) (hV:NdV C.w0 C.S vN nd A us) (h8:nd.kind≠8) (h9:nd.kind≠9) (hus : ∀i,i<A->∃t x,us i=.iface t x) : ∃t x f,vN=.iface t x/\t≠274/\t≠275/\OpF t x f/\OpC C f x A us:=by
 have ar : ∀k,nd.kind=k->arity nd=(if k=3∨k=6 then 1 else if k=4 then nd.val else if k=7∨k=8∨k=9 then 2 else 0):=λk hk=>by rw[<-hk];rfl
 rcases hV with ⟨hk,rfl⟩|⟨hk,rfl⟩|⟨hk,rfl⟩|⟨hk,ar',rfl,hAr⟩|⟨hk,rfl⟩|⟨hk,rfl⟩|⟨hk,rfl⟩|⟨hk,-⟩|⟨hk,-⟩
 ·obtain rfl:A=0:=by have:=ar 1 hk;simp at this;omega
  exact⟨_,_,267,rfl,by decide,by decide,opf _ _ _ (λW=>by kernel_rfl) (λy W=>by kernel_rfl),opc_num nd.val us⟩
 ·obtain rfl:A=0:=by have:=ar 2 hk;simp at this;omega
  exact⟨_,_,268,rfl,by decide,by decide,opf _ _ _ (λW=>by kernel_rfl) (λy W=>by kernel_rfl),opc_var nd.name us⟩
 ·obtain rfl:A=1:=by have:=ar 3 hk;simp at this;omega
  obtain⟨t,x,hu⟩:=hus 0 o_;rw[hu];exact⟨_,_,269,rfl,by decide,by decide,opf _ _ _ (λW=>by kernel_rfl) (λy W=>by kernel_rfl),opc_index hC nd.name t x us hu⟩
 ·exact⟨_,_,270,rfl,by decide,by decide,opf _ _ _ (λW=>by kernel_rfl) (λy W=>by kernel_rfl),opc_call hC nd.name ar' A us hAr⟩
 ·obtain rfl:A=0:=by have:=ar 5 hk;simp at this;omega
  exact⟨_,_,275,rfl,by decide,by decide,opf _ _ _ (λW=>by kernel_rfl) (λy W=>by kernel_rfl),opc_in us⟩
 ·obtain rfl:A=1:=by have:=ar 6 hk;simp at this;omega
  obtain⟨t,x,hu⟩:=hus 0 o_;rw[hu];exact⟨_,_,271,rfl,by decide,by decide,opf _ _ _ (λW=>by kernel_rfl) (λy W=>by kernel_rfl),opc_un hC nd.val t x us hu⟩
 ·obtain rfl:A=2:=by have:=ar 7 hk;simp at this;omega
  obtain⟨t,x,hu⟩:=hus 0 o_;obtain⟨t2,x2,hu2⟩:=hus 1 o_;rw[hu,hu2];exact⟨_,_,272,rfl,by decide,by decide,opf _ _ _ (λW=>by kernel_rfl) (λy W=>by kernel_rfl),opc_bin hC nd.val t x t2 x2 us hu hu2⟩
 ·exact absurd hk h8
 ·exact absurd hk h9
theorem exI_step (C:IC) (hC:C.Ok) (n:Nat) (IH:ExI C n) (ICa:CaI C n):ExI C (n+1):=by
 intro e s r s' hE hkn hsc h1B w vV vI vO vN h hT;by_cases h89:(rootN e).kind=8∨(rootN e).kind=9
 ·obtain⟨b,hcut,-⟩:=ev_two hE h89;obtain⟨us,hus,hV⟩:=hT.kids h1B hcut;have hTb : ∀b',Cut e 2 b'->Tv C.w0 C.S (us 0) (kid e b' 0)/\Tv C.w0 C.S (us 1) (kid e b' 1):=λb' hc'=>by
   obtain⟨-,hb⟩:=hc'.one hcut;have e1 : ∀i,i<2->kid e b' i=kid e b i:=λi hi=>by unfold kid;rw[hb i o_,hb (i+1) o_]
   rw[e1 0 o_,e1 1 o_];exact⟨hus 0 o_,hus 1 o_⟩
  obtain⟨tx,xx,hx⟩:=(hus 0 o_).isI;obtain⟨ty,xy,hy⟩:=(hus 1 o_).isI;rw[hx,hy] at hTb;rcases hV with ⟨hk,-⟩|⟨hk,-⟩|⟨hk,-⟩|⟨hk,-⟩|⟨hk,-⟩|⟨hk,-⟩|⟨hk,-⟩|⟨hk,rfl⟩|⟨hk,rfl⟩
  ·omega
  ·omega
  ·omega
  ·omega
  ·omega
  ·omega
  ·omega
  ·rw[hx,hy];exact value_and hC h (λX hX=>choice_any hC IH hE (.inl ⟨hk,rfl⟩) hkn hsc h1B hX hTb)
  ·rw[hx,hy];exact value_or hC h (λX hX=>choice_any hC IH hE (.inr ⟨hk,rfl⟩) hkn hsc h1B hX hTb)
 ·have h8:(rootN e).kind≠8:=λh=>h89 (.inl h);have h9:(rootN e).kind≠9:=λh=>h89 (.inr h);obtain⟨A,b,st,v,j,hcut,hs0,hj,hkids,hend⟩:=ev_plain hE h8 h9;subst hs0;obtain⟨A',b',hcut',hone⟩:=one_cuts h1B;obtain⟨rfl,hbb⟩:=hcut.one hcut';have ek : ∀i,i<A->kid e b i=kid e b' i:=λi hi=>by unfold kid;rw[hbb i o_,hbb (i+1) o_]
  obtain⟨us,hus,hV⟩:=hT.kids h1B hcut;have hui : ∀i,i<A->∃t x,us i=.iface t x:=λi hi=>(hus i hi).isI;obtain⟨t,x,f,rfl,t1,t2,hF,hO⟩:=node_ops hC hcut.ar hV h8 h9 hui;have hgood:=hcut.root_good;have hrm:rootN e∈e:=rootN_mem hcut.len;obtain⟨c,s1,hc,hOps,hend2⟩ : ∃c s1,(c=2∨c=3)/\Ops C n A (λi=>kid e b i) st v j c s1/\((j<A/\r=.out c/\s'=s1)∨(j=A/\(st A).u=0/\r=.out 2/\s'=st A)∨(j=A/\0<(st A).u/\(((rootN e).kind≠4/\r=(wkN C.t (rootN e) v (st A).sp).1/\s'=(wkN C.t (rootN e) v (st A).sp).2)∨((rootN e).kind=4/\∃f,fnum C.t.funcs (rootN e).name=some f/\Ev C.t C.fr n (.c f (argL A v)) (st A).sp r s')))):=by
   have mk : ∀c s1,(j<A->Ev C.t C.fr n (.e (kid e b j)) (st j) (.out c) s1)->Ops C n A (λi=>kid e b i) st v j c s1:=λc s1 he=>⟨hj,hkids,he,λi hi=>hkn.kid,λi hi=>by show oneB (kid e b i)=true;rw[ek i hi];exact hone i hi,by have:=hcut.arA;omega⟩;rcases hend with ⟨g1,c,g2,g3⟩|⟨g1,g2,g3,g4⟩|⟨g1,g2,g3,g4,g5⟩|⟨g1,g2,g3,g4⟩
   ·exact⟨c,s',g3.outc c rfl,mk c s' (λ_=>g3),.inl ⟨g1,g2,rfl⟩⟩
   ·exact⟨2,s',.inl rfl,mk 2 s' (λh=>by omega),.inr (.inl ⟨g1,g2,g3,g4⟩)⟩
   ·exact⟨2,s',.inl rfl,mk 2 s' (λh=>by omega),.inr (.inr ⟨g1,g2,.inl ⟨g3,g4,g5⟩⟩)⟩
   ·exact⟨2,s',.inl rfl,mk 2 s' (λh=>by omega),.inr (.inr ⟨g1,g2,.inr ⟨g3,g4⟩⟩)⟩
  refine value_plain hC h t1 t2 hF hO hc (λX ar hX hL=>values_any hC IH hOps hc hsc hX hL hus) ?_;rcases hend2 with g|g|⟨rfl,g2,g3⟩
  ·exact .inl g
  ·exact .inr (.inl g)
  ·refine .inr (.inr ⟨rfl,g2,λX vI2 vO2 a m cp hX hA hnb => ?_⟩);obtain⟨okA,hlA,hin⟩:=hOps.l h.ok j n_;have hkr:nodeE C.t ((st j).sp.l.map Prod.fst) (rootN e)=0:=by
    show nodeE C.t ((st j).l.map Prod.fst) _=0;rw[hlA];exact hkn _ hrm
   rcases g3 with ⟨h4,e1,e2⟩|⟨h4,f2,hf2,hE2⟩
   ·rw[e1,e2];exact workN_any hC hX (by show Scp C.t ((st j).l.map Prod.fst);rw[hlA];exact hsc) hgood hkr hcut.ar hV h4 h8 h9 hui hA hin
   ·have hcl:=ICa f2 (argL j v) (st j).sp r s' hE2 (λhf=>by
     obtain⟨f3,q1,q2⟩:=node_call hkr h4;rw[hf2] at q1;cases q1
     have har:=hcut.ar;simp only[arity,h4] at har;simp only[List.getD,List.getElem?_eq_getElem hf,Option.getD_some] at q2;rw[argL_len];simp at har;omega) (λy hy=>by
     obtain⟨k,hk,rfl⟩:=List.mem_map.1 hy;exact hin k (List.mem_range.1 hk)) (by
     have e1:(((st j).sp.u:Nat):Int)+1=((st j).u:Int):=by simp only[ES.sp];omega
     rw[e1];exact hnb)
    rcases hV with ⟨hk,-⟩|⟨hk,-⟩|⟨hk,-⟩|⟨hk,ar',e3,hAr⟩|⟨hk,-⟩|⟨hk,-⟩|⟨hk,-⟩|⟨hk,-⟩|⟨hk,-⟩
    ·omega
    ·omega
    ·omega
    ·obtain⟨ra,rc,rfl,-⟩:=hAr;rw[e3];exact work_call hC hX (max_small (name_len hgood) (by decide)) hf2 hA (λY hY hAY=>hcl Y vV vI2 vO2 _ hY hAY)
    ·omega
    ·omega
    ·omega
    ·omega
    ·omega
end
end Go.Proofs.YtffnkkpmlplfeaaGreatDoor
