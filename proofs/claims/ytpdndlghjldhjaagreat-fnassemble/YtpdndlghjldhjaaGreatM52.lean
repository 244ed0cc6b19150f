import Derived.Test.YtpdndlghjldhjaaGreatM47
import Derived.Test.YtpdndlghjldhjaaGreatM51
import Derived.Test.YtpdndlghjldhjaaGreatM27
import Derived.RegionTactic
import Derived.Deep.RegionHeld3
set_option linter.unusedSectionVars false
variable [Inhabited Go.Proofs.YtpdndlghjldhjaaGreat.Pick]
namespace Go.Proofs.YtpdndlghjldhjaaGreat
set_option linter.unusedVariables false
set_option linter.unusedSimpArgs false
set_option maxRecDepth 100000
set_option maxHeartbeats 16000000
section
open Go.RowKit
def locG (ns:List ByteArray) (s:ByteArray):Int:=match locN ns s with | some x=>x | none => -1
theorem locG_at {ns:List ByteArray} {s:ByteArray} {k:Nat} (hk:k<ns.length) (h:ns[k]=s) (hb : ∀j (hj:j<ns.length),j<k->ns[j]≠s):locG ns s=4*(k:Int):=by
 unfold locG locN
 have:ns.findIdx? (fun x=>decide (x=s))=some k:=by
  rw [List.findIdx?_eq_some_iff_getElem]
  exact ⟨hk,by simpa using h,fun j hj=>by simpa using hb j (by omega) hj⟩
 rw [this]
 rfl
theorem locG_none {ns:List ByteArray} {s:ByteArray} (hb : ∀j (hj:j<ns.length),ns[j]≠s):locG ns s = -1:=by
 unfold locG locN
 have:ns.findIdx? (fun x=>decide (x=s))=none:=by
  rw [List.findIdx?_eq_none_iff]
  intro x hx
  obtain ⟨j,hj,rfl⟩:=List.getElem_of_mem hx
  simpa using hb j hj
 rw [this]
 rfl
theorem localG_any (P:Nat) (its:List It) (vg vf vn:Value) (fr en l:Int) (ns:List ByteArray) (s:ByteArray) (w:World) (hO:Es P w its vg vf vn fr en l) (hs:Strs w vn ns) (hn:ns.length<=1000000) :
  Calls Tryz.prog 82 #[.pointer (some ⟨P,0,none⟩),.string s] w fun e w'=>e = .returned (.int .i64 (locG ns s))/\w'=w:=by
 have h2:w.cell? ⟨P,2,none⟩=some vn:=hO.oth 2 (by decide) (by decide)
 obtain ⟨a,c,rfl,-,-,hc⟩:=hs
 have HC:=hide hc
 clear hO hc
 go_enter Tryz.func82,Tryz.ntmps82
 go_wp2_with fail
 go_loopw [5] (fun i wr=>∃k:Nat,k<=ns.length/\i = .int .i64 k/\(∀j (h:j<ns.length),j<k->ns[j]≠s)/\wr=w) (fun i _=>ns.length-(RowKit.intOf i).toNat)
 case atStart=>exact ⟨0,Nat.zero_le _,rfl,fun j _ h=>absurd h (Nat.not_lt_zero _),rfl⟩
 case round=>
  obtain ⟨k,hk,rfl,hall,rfl⟩:=hrel
  have HAll:=hide hall
  clear hall
  by_cases hlt:k<ns.length
  ·obtain ⟨b,off,rfl,hcell⟩:=HC.out (by omega)
   have d0:=hcell k hlt
   clear hcell
   by_cases he:ns[k]=s
   ·have HR:Hid (locG ns s=4*(k:Int)):=locG_at hlt he HAll.out
    rw [he] at d0
    have k1:IntKind.i64.wrap (4*(k:Int))=4*(k:Int):=by simp [IntKind.wrap,IntKind.bits,IntKind.signed];omega
    clear he
    go_wp2_with fail
    go_ret
    exact ⟨by rw [HR.out];rfl,rfl⟩
   ·have HK:Hid (∀j (h:j<ns.length),j<k+1->ns[j]≠s):=fun j hj hjk=>by
     by_cases e:j=k
     ·subst e;exact he
     ·exact HAll.out j hj (by omega)
    have he':=ne_list he
    generalize ns[k]=z at d0 he he'
    go_wp2_with fail
    go_roundw
    case rel=>exact ⟨k+1,by omega,by go_num,HK.out,trivial⟩
    case measure=>simp [RowKit.intOf];omega
  ·have HR:Hid (locG ns s = -1):=locG_none (fun j hj=>HAll.out j hj (by omega))
   go_wp2_with fail
   go_ret
   exact ⟨by rw [HR.out];rfl,rfl⟩
theorem globA_step {gs:List Gl} {s:ByteArray} {k:Nat} {at_:Int} (hk:k<gs.length) (h:gs[k].name≠s):globA (gs.drop k) s at_=globA (gs.drop (k+1)) s (at_+4*max 1 gs[k].size):=by
 rw [List.drop_eq_getElem_cons hk]
 simp [globA,h]
theorem globA_at {gs:List Gl} {s:ByteArray} {k:Nat} {at_:Int} (hk:k<gs.length) (h:gs[k].name=s):globA (gs.drop k) s at_=at_:=by
 rw [List.drop_eq_getElem_cons hk]
 simp [globA,h]
theorem globA_end {gs:List Gl} {s:ByteArray} {at_:Int}:globA (gs.drop gs.length) s at_=at_:=by
 rw [List.drop_length]
 simp [globA]
theorem globalG_any (gs:List Gl) (s:ByteArray) (vg vf:Value) (w:World) (hv : ∃a n c,vf = .slice a n c) (hg:Globs w vg gs) (hl:gs.length<=50) (hz : ∀g∈gs,0<=g.size/\g.size<=4000) :
  Calls Tryz.prog 84 #[.agg #[vg,vf],.string s] w fun e w'=>e = .returned (.int .i64 (globA gs s 1048576))/\Below w.heap.size w w':=by
 obtain ⟨af,nf,cf,rfl⟩:=hv
 obtain ⟨a,c,rfl,-,-,hc⟩:=hg
 have HC:=hide hc
 have HZ:=hide hz
 clear hc hz
 obtain ⟨W0,hW0⟩ : ∃W0,W0=w.alloc (.cells #[.slice a gs.length c,.slice af nf cf] 44):=⟨_,rfl⟩
 have hB0:Bl w W0:=by rw [hW0];exact (Below.refl _ _).alloc (Nat.le_refl _) _
 have hx : ∀W,Bl W0 W->W.cell? ⟨w.heap.size,0,none⟩=some (.slice a gs.length c):=fun W hW=>by
  rw [hW.cell (p:=⟨w.heap.size,0,none⟩) (by rw [hW0];simp),hW0]
  simp
 have HX:=hide hx
 have HW0:=hide hW0
 clear hx hW0
 obtain ⟨R,hR⟩ : ∃R,R=globA gs s 1048576:=⟨_,rfl⟩
 rw [<-hR]
 have HR0:Hid (R=globA (gs.drop 0) s 1048576):=by rw [List.drop_zero];exact hR
 clear hR
 go_enter Tryz.func84,Tryz.ntmps84
 go_wp2_with fail
 rw [<-HW0.out]
 go_loopw [5,6] (fun p i wr=>∃(k:Nat) (at_:Int),k<=gs.length/\i = .int .i64 k/\p = .int .i64 at_/\0<=at_/\at_<=1048576+16000*k/\R=globA (gs.drop k) s at_/\Bl W0 wr) (fun _ i _=>gs.length-(RowKit.intOf i).toNat)
 case atStart=>exact ⟨0,1048576,Nat.zero_le _,rfl,rfl,by omega,by omega,HR0.out,Below.refl _ _⟩
 case round=>
  obtain ⟨k,at_,hk,rfl,rfl,h0,h1,hR,hB⟩:=hrel
  have HR:=hide hR
  clear hR HR0
  have x0:=HX.out wr hB
  have hBw:Bl w wr:=hB0.trans (hB.mono hB0.size)
  by_cases hlt:k<gs.length
  ·obtain ⟨b,off,rfl,hcell⟩:=HC.out (by omega)
   obtain ⟨d0,d1⟩:=(hcell.below hBw) k hlt
   have hzk:=HZ.out _ (List.getElem_mem hlt)
   by_cases he:gs[k].name=s
   ·have HE:Hid (R=at_):=by show _=_;rw [HR.out];exact globA_at hlt he
    rw [he] at d0
    clear he hcell
    generalize gs[k].size=z at d1 hzk
    go_wp2_with fail
    go_ret
    exact ⟨by rw [HE.out];rfl,hBw⟩
   ·have HS:Hid (R=globA (gs.drop (k+1)) s (at_+4*max 1 gs[k].size)):=by show _=_;rw [HR.out];exact globA_step hlt he
    have he':=ne_list he
    generalize gs[k].name=nm at d0 he he'
    generalize gs[k].size=z at d1 hzk HS
    have hm:1<=max 1 z/\max 1 z<=4000:=by omega
    have HM:=most_any 1 z wr
    generalize max 1 z=mz at HS hm HM
    have k1:IntKind.i64.wrap (4*mz)=4*mz:=by simp [IntKind.wrap,IntKind.bits,IntKind.signed];omega
    have k2:IntKind.i64.wrap (at_+4*mz)=at_+4*mz:=by simp [IntKind.wrap,IntKind.bits,IntKind.signed];omega
    clear hcell HR
    go_wp2_with fail
    refine HM.mono ?_
    rintro e w2 ⟨rfl,hb2⟩
    have hB2:=hB.trans (hb2.mono hB.size)
    clear hb2 d0 d1 x0 HM
    go_wp2_with fail
    go_roundw
    case rel=>exact ⟨k+1,at_+4*mz,by omega,by go_num,rfl,by omega,by omega,HS.out,hB2⟩
    case measure=>simp [RowKit.intOf];omega
  ·have HE:Hid (R=at_):=by
    show _=_
    obtain rfl:k=gs.length:=by omega
    rw [HR.out]
    exact globA_end
   go_wp2_with fail
   go_ret
   exact ⟨by rw [HE.out];rfl,hBw⟩
end
section
open Go.RowKit
theorem wpList_appS {w:World} {ops:Array Oper} {rest:List Oper} {o:Oper} {a:Act} {Q:Exit->Act->World->Prop} (hgd:o.guard=none) (s x:Operand)
  (ho:o.op = .call {callee:=.builtin .append,args:=#[s,x],argTypes:=#[73,73]})
  (base:Nat) (v:Value) (xs:List ByteArray) (hs:a.eval s=v) (hown:SRow base w v xs) (xv:Value) (us:List ByteArray) (hxv:a.eval x=xv) (hx:SSrc w xv us)
  (hm:xs.length+us.length<=10000000) (hbase:base<=w.heap.size)
  (h : ∀v' w',SRow base w' v' (xs++us)->w.grownBy w' v.ownBlock->(∀k,v'.ownBlock=some k->v.ownBlock=some k∨w.heap.size<=k)->wpList Tryz.prog ops Q rest (a.put o.dst v') w'):wpList Tryz.prog ops Q (o::rest) a w:=by
 refine wpList_plain hgd fun K hK => ?_
 obtain ⟨v',w',hr,h2,h3,h4⟩:=run_appS (w:=w) base o.type v xs hown xv us hx hm hbase
 unfold Oper.wp execOp
 simp only [ho,resolve,invoke,builtin,Sem.run_bind,Sem.run_pure,Result.andThen_ok,List.map_toArray,List.map_cons,List.map_nil,hs,hxv,hr]
 exact hK _ _ (h v' w' h2 h3 h4)
theorem needG_any {w:World} {e:List Nd} (hk:okE e) (hp:0<e.length) (v:Value) (W:World) (d:Int) (hN:Nodes w v e) (hB:Below w.heap.size w W) (hd:0<=d) (hd1:d<=1):Calls Tryz.prog 69 #[v,.int .i64 d] W fun x w'=>x = .returned (.int .i64 (needL e d))/\Below W.heap.size W w':=by
 obtain ⟨g,h1,h2,h3⟩:=needS_any w e.length e (Nat.le_refl _) (by have:=hk.1;omega) (hk.2 hp)
 rw [h1.eq]
 exact h3 v W d hN hB hd (by have:=hk.1;omega)
theorem boxS {w w':World} {t:TypeId} {x0 x1 x2 x3 x4 x5:Value} (h:Below (w.heap.size+1) (w.alloc (.cells #[x0,x1,x2,x3,x4,x5] t)) w') :
  w'.cell? ⟨w.heap.size,0,none⟩=some x0/\w'.cell? ⟨w.heap.size,1,none⟩=some x1/\w'.cell? ⟨w.heap.size,2,none⟩=some x2/\w'.cell? ⟨w.heap.size,3,none⟩=some x3:=by
 refine ⟨?_,?_,?_,?_⟩ <;> (rw [h.cell (by simp)];simp)
theorem szA {w w':World} {o:Obj} (h:Below (w.heap.size+1) (w.alloc o) w'):w.heap.size+1<=w'.heap.size:=by have:=h.size;simpa using this
theorem boxF {w w':World} {t:TypeId} {x0 x1 x2:Value} (h:Below (w.heap.size+1) (w.alloc (.cells #[x0,x1,x2] t)) w') :
  w'.cell? ⟨w.heap.size,0,none⟩=some x0/\w'.cell? ⟨w.heap.size,1,none⟩=some x1/\w'.cell? ⟨w.heap.size,2,none⟩=some x2:=by
 refine ⟨?_,?_,?_⟩ <;> (rw [h.cell (by simp)];simp)
theorem layout_row (f:Fu) (vp vb:Value) (w:World) (hok:FrOk f) (hp:Strs w vp f.params) (hb:Stmts w vb f.body) :
  Calls Tryz.prog 51 #[.agg #[.string f.name,vp,vb]] w fun e w'=>∃a c,e = .returned (.tuple #[.slice a (f.params++declN f.body).length c,.int .i64 (places f.body)])/\Below w.heap.size w w'/\SRow (w.heap.size+1) w' (.slice a (f.params++declN f.body).length c) (f.params++declN f.body):=by
 have HPs:Hid (Strs w vp f.params):=hp
 obtain ⟨ap,cp,rfl,-⟩:=hp
 obtain ⟨ab,cb,rfl,hb1,hb2,hbc⟩:=hb
 have HBC:Hid (0<f.body.length->∃b off,ab=some ⟨b,off,none⟩/\StmtsC w b off f.body):=hbc
 have HOk:Hid (FrOk f):=hok
 have hpl:=hok.pl
 have hbl:=hok.bl
 obtain ⟨W0,hW0⟩ : ∃W0,W0=w.alloc (.cells #[.string f.name,.slice ap f.params.length cp,.slice ab f.body.length cb] 86):=⟨_,rfl⟩
 have hA:Below w.heap.size w W0:=by rw [hW0];exact (Below.refl _ _).alloc (Nat.le_refl _) _
 have hs0:W0.heap.size=w.heap.size+1:=by rw [hW0];simp
 have HSr:Hid (SRow (w.heap.size+1) (W0.alloc (.cells #[] 9)) (.slice (some ⟨w.heap.size+1,0,none⟩) 0 0) []):=by
  have:=srow_lit W0 (w.heap.size+1) (by omega)
  rw [hs0] at this
  exact this
 have HSs:Hid (SSrc (W0.alloc (.cells #[] 9)) (.slice ap f.params.length cp) f.params):=(HPs.out.below (hA.alloc (by omega) _)).src
 have HBox:Hid (∀W,Below (w.heap.size+1) W0 W->W.cell? ⟨w.heap.size,0,none⟩=some (.string f.name)/\W.cell? ⟨w.heap.size,1,none⟩=some (.slice ap f.params.length cp)/\W.cell? ⟨w.heap.size,2,none⟩=some (.slice ab f.body.length cb)):=fun W hW=>by
  rw [hW0] at hW
  exact boxF hW
 have HA:Hid (Below w.heap.size w W0):=hA
 have HW0:Hid (W0=w.alloc (.cells #[.string f.name,.slice ap f.params.length cp,.slice ab f.body.length cb] 86)):=hW0
 have hsz0:(W0.alloc (.cells #[] 9)).heap.size=w.heap.size+2:=by simp [hs0]
 clear hW0 hbc hok hA
 go_enter Tryz.func51,Tryz.ntmps51
 go_wp2_with (at_builtin;rw [<-HW0.out];refine wpList_appS rfl _ _ rfl (w.heap.size+1) _ [] rfl HSr.out _ f.params rfl HSs.out (by simp;omega) (by omega) ?_)
 intro v1 w1 hr1 hg1 hf1
 have hB1:Below (w.heap.size+1) W0 w1:=((Below.refl _ _).alloc (by omega) _).grown hg1 (by omega) (fun g hg=>(World.ownsRow.lt HSr.out g hg).1)
 have HR1:Hid (SRow (w.heap.size+1) w1 v1 (f.params++declN (f.body.take 0))):=by
  show SRow _ _ _ _
  simpa [declN] using hr1
 have HB1:Hid (Below (w.heap.size+1) W0 w1):=hB1
 clear hr1 hg1 hf1 HSr HSs hsz0 hB1
 go_wp2_with fail
 go_loopw [4,5,6] (fun v p i wr=>∃(k:Nat),k<=f.body.length/\i = .int .i64 k/\p = .int .i64 (places (f.body.take k))/\SRow (w.heap.size+1) wr v (f.params++declN (f.body.take k))/\Below (w.heap.size+1) W0 wr) (fun _ _ i _=>f.body.length-(RowKit.intOf i).toNat)
 case atStart=>exact ⟨0,Nat.zero_le _,rfl,rfl,HR1.out,HB1.out⟩
 case round=>
  clear HR1 HB1
  obtain ⟨k,hk,rfl,rfl,hR,hB⟩:=hrel
  obtain ⟨f0,f1,f2⟩:=HBox.out wr hB
  have hBw:Below w.heap.size w wr:=HA.out.trans (hB.mono (by omega))
  have hsw:w.heap.size+1<=wr.heap.size:=by have:=hB.size;omega
  by_cases hlt:k<f.body.length
  ·obtain ⟨b',off,rfl,hc⟩:=HBC.out (by omega)
   obtain ⟨ve,vf,⟨c0,c1,c2,c3,c4,c5⟩,he,hf⟩:=hc k hlt
   have hlb:=World.block_lt_of_cell? _ _ c0
   have d0:=(hBw.cell (p:=⟨b',off+k*6,none⟩) hlb).trans c0
   have d1:=(hBw.cell (p:=⟨b',off+k*6+1,none⟩) hlb).trans c1
   have d2:=(hBw.cell (p:=⟨b',off+k*6+2,none⟩) hlb).trans c2
   have d3:=(hBw.cell (p:=⟨b',off+k*6+3,none⟩) hlb).trans c3
   have d4:=(hBw.cell (p:=⟨b',off+k*6+4,none⟩) hlb).trans c4
   have d5:=(hBw.cell (p:=⟨b',off+k*6+5,none⟩) hlb).trans c5
   clear c0 c1 c2 c3 c4 c5 hc
   have hmem:f.body[k]∈f.body:=List.getElem_mem hlt
   have hsn:declN (f.body.take (k+1))=if f.body[k].kind=1 then declN (f.body.take k)++[f.body[k].name] else declN (f.body.take k):=by rw [List.take_succ_eq_append_getElem hlt,declN_snoc]
   have hpn:places (f.body.take (k+1))=if f.body[k].kind=3 then max (max (places (f.body.take k)) (needL f.body[k].e 0)) (needL f.body[k].f 1) else max (places (f.body.take k)) (needL f.body[k].e 0):=by
    rw [List.take_succ_eq_append_getElem hlt,places_snoc,plU_spec (HOk.out.sb _ hmem)]
   have hse:=HOk.out.st _ hmem
   have hsb:=HOk.out.sb _ hmem
   have hdl:(f.params++declN (f.body.take k)).length<=2000:=by
    have:=declN_len (f.body.take k)
    have:(f.body.take k).length<=k:=List.length_take_le _ _
    simp only [List.length_append]
    omega
   have HNE:Hid (∀W,Below w.heap.size w W->Calls Tryz.prog 69 #[ve,.int .i64 0] W fun x w'=>x = .returned (.int .i64 (needL f.body[k].e 0))/\Below W.heap.size W w'):=fun W hW=>needG_any hse.1 hsb.1 ve W 0 he hW (by omega) (by omega)
   have HNF:Hid (f.body[k].kind=3->∀W,Below w.heap.size w W->Calls Tryz.prog 69 #[vf,.int .i64 1] W fun x w'=>x = .returned (.int .i64 (needL f.body[k].f 1))/\Below W.heap.size W w'):=fun h3 W hW=>needG_any hse.2 (hsb.2.1 h3) vf W 1 hf hW (by omega) (by omega)
   obtain ⟨ae,ce,rfl,-⟩:=he
   obtain ⟨af,cf,rfl,-⟩:=hf
   clear hse hsb hmem
   generalize needL f.body[k].e 0=ne at HNE hpn
   generalize needL f.body[k].f 1=nf at HNF hpn
   generalize f.body[k].e.length=le at d2 HNE
   generalize f.body[k].f.length=lf at d3 HNF
   generalize f.body[k].name=sn at d1 hsn
   generalize f.body[k].thn=st at d4
   generalize f.body[k].els=sl at d5
   generalize f.body[k].kind=sk at d0 hsn hpn HNF
   generalize hP:places (f.body.take k)=P at hpn ⊢
   clear hP
   obtain ⟨an,cn,rfl⟩:=hR.shape
   have HR:Hid (SRow (w.heap.size+1) wr (.slice an (f.params++declN (f.body.take k)).length cn) (f.params++declN (f.body.take k))):=hR
   have HSN:Hid (declN (f.body.take (k+1))=if sk=1 then declN (f.body.take k)++[sn] else declN (f.body.take k)):=hsn
   have HPN:Hid (places (f.body.take (k+1))=if sk=3 then max (max P ne) nf else max P ne):=hpn
   clear hR hsn hpn
   have hA1 : ∀o,Below (w.heap.size+1) W0 (wr.alloc o):=fun o=>hB.alloc hsw o
   have HAw:Hid (∀W,Below (w.heap.size+1) W0 W->Below w.heap.size w W):=fun W hW=>HA.out.trans (hW.mono (by omega))
   generalize hL:(f.params++declN (f.body.take k)).length=L at HR ⊢
   have hL2:L<=2000:=by omega
   by_cases h1:sk=1
   ·subst h1
    have HR1:Hid (SRow (w.heap.size+1) ((wr.alloc (.cells #[.int .i64 1,.string sn,.slice ae le ce,.slice af lf cf,.int .i64 st,.int .i64 sl] 94)).alloc (.cells #[.string sn] 9)) (.slice an L cn) (f.params++declN (f.body.take k))):=(HR.out.below ((Below.refl _ _).alloc (Nat.le_refl _) _)).below ((Below.refl _ _).alloc (Nat.le_refl _) _)
    have HS1:Hid (SSrc ((wr.alloc (.cells #[.int .i64 1,.string sn,.slice ae le ce,.slice af lf cf,.int .i64 st,.int .i64 sl] 94)).alloc (.cells #[.string sn] 9)) (.slice (some ⟨wr.heap.size+1,0,none⟩) 1 1) [sn]):=by
     have:=ssrc_1 (wr.alloc (.cells #[.int .i64 1,.string sn,.slice ae le ce,.slice af lf cf,.int .i64 st,.int .i64 sl] 94)) sn 9
     rw [World.size_alloc] at this
     exact this
    have HSN2:Hid (f.params++declN (f.body.take (k+1))=f.params++(declN (f.body.take k)++[sn])):=by
     show _=_
     rw [HSN.out,if_pos rfl]
    have HP5:Hid (places (f.body.take (k+1))=max P ne):=by
     show _=_
     rw [HPN.out,if_neg (by decide)]
    have hLL:(f.params++declN (f.body.take k)).length + [sn].length<=10000000:=by simp only [List.length_cons,List.length_nil];omega
    have hob : ∀g,(Value.slice an L cn).ownBlock=some g->w.heap.size+1<=g/\g<wr.heap.size:=fun g hg=>World.ownsRow.lt HR.out g hg
    clear HNF HSN HPN
    go_wp2_with (at_builtin;refine wpList_appS rfl _ _ rfl (w.heap.size+1) _ (f.params++declN (f.body.take k)) rfl HR1.out _ [sn] rfl HS1.out hLL (by simp;omega) ?_)
    intro v2 w2 hr2 hg2 hf2
    rw [<-HSN2.out] at hr2
    have hc2:Below (w.heap.size+1) (wr.alloc (.cells #[.int .i64 1,.string sn,.slice ae le ce,.slice af lf cf,.int .i64 st,.int .i64 sl] 94)) w2:=((Below.refl _ _).alloc (by simp;omega) _).grown hg2 (by simp;omega) (fun g hg=>(hob g hg).1)
    have hkb : ∀o,w2.cell? ⟨wr.heap.size,o,none⟩=(wr.alloc (.cells #[.int .i64 1,.string sn,.slice ae le ce,.slice af lf cf,.int .i64 st,.int .i64 sl] 94)).cell? ⟨wr.heap.size,o,none⟩:=fun o=>by
     have h1:w2.heap[wr.heap.size]? = ((wr.alloc (.cells #[.int .i64 1,.string sn,.slice ae le ce,.slice af lf cf,.int .i64 st,.int .i64 sl] 94)).alloc (.cells #[.string sn] 9)).heap[wr.heap.size]? := hg2.block wr.heap.size (by simp;omega) (fun h=>by have:=(hob _ h.symm).2;omega)
     rw [World.cell?_of_block (a:=⟨wr.heap.size,o,none⟩) h1,World.cell?_alloc_lt _ _ ⟨wr.heap.size,o,none⟩ (by simp)]
    have g0:=(hkb 0).trans (show _=some (.int .i64 1) by simp)
    have g2:=(hkb 2).trans (show _=some (.slice ae le ce) by simp)
    have hB2:Below (w.heap.size+1) W0 w2:=(hA1 _).trans (hc2.mono (by omega))
    have HR2:Hid (SRow (w.heap.size+1) w2 v2 (f.params++declN (f.body.take (k+1)))):=hr2
    obtain ⟨an2,cn2,rfl⟩:=hr2.shape
    generalize (f.params++declN (f.body.take (k+1))).length=L2 at HR2 ⊢
    have hlw:wr.heap.size<w2.heap.size:=World.block_lt_of_cell? _ _ g0
    clear hr2 hg2 hf2 hkb hc2 d0 d1 d2 d3 d4 d5 f0 f1 f2 HR1 HS1 hob HR hL hA1 hLL
    go_wp2_with fail
    refine (HNE.out _ (HAw.out _ hB2)).mono ?_
    rintro e w3 ⟨rfl,hb3⟩
    have g3:=(hb3.cell (p:=⟨wr.heap.size,0,none⟩) hlw).trans g0
    clear g0 g2
    go_wp2_with fail
    refine (most_any P ne w3).mono ?_
    rintro e w4 ⟨rfl,hb4⟩
    have g4:=(hb4.cell (p:=⟨wr.heap.size,0,none⟩) (Nat.lt_of_lt_of_le hlw hb3.size)).trans g3
    have HR5:Hid (SRow (w.heap.size+1) w4 (.slice an2 L2 cn2) (f.params++declN (f.body.take (k+1)))):=(HR2.out.below hb3).below hb4
    have hB3:=hB2.trans (hb3.mono (by have:=hB2.size;omega))
    have hB4:=hB3.trans (hb4.mono (by have:=hB3.size;omega))
    clear g3 hb3 hb4 hB2 hB3 HR2 HNE HAw HSN2
    go_wp2_with fail
    go_roundw
    case rel=>exact ⟨k+1,by omega,by go_num,by rw [HP5.out],HR5.out,hB4⟩
    case measure=>simp [RowKit.intOf];omega
   ·have hk1:(sk == 1)=false:=by simp [h1]
    have HSN2:Hid (declN (f.body.take (k+1))=declN (f.body.take k)):=by
     show _=_
     rw [HSN.out,if_neg h1]
    clear HSN
    by_cases h3:sk=3
    ·subst h3
     have HNF3:=HNF.out rfl
     have HNG:Hid (∀W,Below w.heap.size w W->Calls Tryz.prog 69 #[.slice af lf cf,.int .i64 1] W fun x w'=>x = .returned (.int .i64 nf)/\Below W.heap.size W w'):=HNF3
     clear HNF HNF3
     go_wp2_with fail
     refine (HNE.out _ (HAw.out _ (hA1 _))).mono ?_
     rintro e w2 ⟨rfl,hb2⟩
     simp only [World.size_alloc] at hb2
     obtain ⟨g0,-,-,g3⟩:=boxS hb2
     clear d0 d1 d2 d3 d4 d5 f0 f1 f2 HNE
     go_wp2_with fail
     refine (most_any P ne w2).mono ?_
     rintro e w3 ⟨rfl,hb3⟩
     have hc3:=hb2.trans (hb3.mono (szA hb2))
     clear g0 g3 hb2 hb3
     obtain ⟨g0,-,-,g3⟩:=boxS hc3
     go_wp2_with fail
     refine (HNG.out _ (HAw.out _ ((hA1 _).trans (hc3.mono (by omega))))).mono ?_
     rintro e w4 ⟨rfl,hb4⟩
     have hc4:=hc3.trans (hb4.mono (szA hc3))
     clear g0 g3 hb4 hc3
     go_wp2_with fail
     refine (most_any (max P ne) nf w4).mono ?_
     rintro e w5 ⟨rfl,hb5⟩
     have hc5:=hc4.trans (hb5.mono (szA hc4))
     clear hb5 hc4
     have HR5:Hid (SRow (w.heap.size+1) w5 (.slice an L cn) (f.params++declN (f.body.take (k+1)))):=by
      show SRow _ _ _ _
      rw [HSN2.out]
      exact HR.out.below (one_below hc5)
     have hB5:Below (w.heap.size+1) W0 w5:=(hA1 _).trans (hc5.mono (by omega))
     have HP5:Hid (places (f.body.take (k+1))=max (max P ne) nf):=by
      show _=_
      rw [HPN.out]
      simp
     clear hc5 HR HPN HSN2 hL
     go_wp2_with fail
     go_roundw
     case rel=>exact ⟨k+1,by omega,by go_num,by rw [HP5.out,Int.max_assoc],HR5.out,hB5⟩
     case measure=>simp [RowKit.intOf];omega
    ·have hk3:(sk == 3)=false:=by simp [h3]
     clear HNF
     go_wp2_with fail
     refine (HNE.out _ (HAw.out _ (hA1 _))).mono ?_
     rintro e w2 ⟨rfl,hb2⟩
     simp only [World.size_alloc] at hb2
     obtain ⟨g0,-,-,g3⟩:=boxS hb2
     clear d0 d1 d2 d3 d4 d5 f0 f1 f2 HNE
     go_wp2_with fail
     refine (most_any P ne w2).mono ?_
     rintro e w3 ⟨rfl,hb3⟩
     have hc3:=hb2.trans (hb3.mono (szA hb2))
     clear g0 g3 hb2 hb3
     obtain ⟨g0,-,-,g3⟩:=boxS hc3
     have HR5:Hid (SRow (w.heap.size+1) w3 (.slice an L cn) (f.params++declN (f.body.take (k+1)))):=by
      show SRow _ _ _ _
      rw [HSN2.out]
      exact HR.out.below (one_below hc3)
     have hB5:Below (w.heap.size+1) W0 w3:=(hA1 _).trans (hc3.mono (by omega))
     have HP5:Hid (places (f.body.take (k+1))=max P ne):=by
      show _=_
      rw [HPN.out,if_neg h3]
     clear hc3 HR HPN HSN2 hL
     go_wp2_with fail
     go_roundw
     case rel=>exact ⟨k+1,by omega,by go_num,by rw [HP5.out],HR5.out,hB5⟩
     case measure=>simp [RowKit.intOf];omega
  ·obtain rfl:k=f.body.length:=by omega
   rw [List.take_length] at hR ⊢
   obtain ⟨an,cn,rfl⟩:=hR.shape
   have HRz:Hid (SRow (w.heap.size+1) wr (.slice an (f.params++declN f.body).length cn) (f.params++declN f.body)):=hR
   clear hR
   go_wp2_with fail
   exact bodyPost_ret (v:=.tuple #[.slice an (f.params++declN f.body).length cn,.int .i64 (places f.body)]) (by simp [results,Tryz.results51,go_sem]) rfl ⟨an,cn,rfl,hBw,HRz.out⟩
theorem layout_any (f:Fu) (vp vb:Value) (w:World) (hok:FrOk f) (hp:Strs w vp f.params) (hb:Stmts w vb f.body) :
  Calls Tryz.prog 51 #[.agg #[.string f.name,vp,vb]] w fun e w'=>∃a c,e = .returned (.tuple #[.slice a (f.params++declN f.body).length c,.int .i64 (places f.body)])/\Below w.heap.size w w':=
 (layout_row f vp vb w hok hp hb).mono (fun _ _ ⟨a,c,h1,h2,_⟩=>⟨a,c,h1,h2⟩)
theorem frameG_any (f:Fu) (vp vb:Value) (w:World) (hok:FrOk f) (hp:Strs w vp f.params) (hb:Stmts w vb f.body) :
  Calls Tryz.prog 52 #[.agg #[.string f.name,vp,vb]] w fun e w'=>e = .returned (.int .i64 (frameSz f))/\Below w.heap.size w w':=by
 have hA : ∀o,Bl w (w.alloc o):=fun o=>(Below.refl _ _).alloc (Nat.le_refl _) o
 have HL:=hide fun W (hW:Bl w W)=>layout_any f vp vb W hok (hp.below hW) (hb.below hW)
 have hpb:=places_bd f.body hok.st
 have hN:(f.params++declN f.body).length<=2000:=by
  have:=declN_len f.body
  have:=hok.pl
  have:=hok.bl
  simp only [l_a]
  omega
 obtain ⟨F,hF⟩ : ∃F,F=frameSz f:=⟨_,rfl⟩
 rw [<-hF]
 unfold frameSz at hF
 obtain ⟨ap,cp,rfl,-⟩:=hp
 obtain ⟨ab,cb,rfl,-⟩:=hb
 generalize (f.params++declN f.body).length=N at HL hN hF
 generalize places f.body=P at HL hpb hF
 have HFz:=hide hF
 clear hF hok
 have k1:IntKind.i64.wrap ((N:Int)+P)=(N:Int)+P:=by simp [IntKind.wrap,IntKind.bits,IntKind.signed];omega
 have k2:IntKind.i64.wrap ((N:Int)+P+1)=(N:Int)+P+1:=by simp [IntKind.wrap,IntKind.bits,IntKind.signed];omega
 have k3:IntKind.i64.wrap (4*((N:Int)+P+1))=4*((N:Int)+P+1):=by simp [IntKind.wrap,IntKind.bits,IntKind.signed];omega
 have k4:IntKind.i64.wrap (4*((N:Int)+P+1)+15)=4*((N:Int)+P+1)+15:=by simp [IntKind.wrap,IntKind.bits,IntKind.signed];omega
 go_enter Tryz.func52,Tryz.ntmps52
 go_wp2_with fail
 refine (HL.out _ (hA _)).mono ?_
 rintro e w1 ⟨a,c,rfl,hb1⟩
 have hB1:=(hA _).trans (hb1.mono (hA _).size)
 clear hb1 HL hA
 go_wp2_with fail
 refine bodyPost_ret (v:=.int .i64 F) ?_ rfl ⟨rfl,hB1⟩
 rw [HFz.out,show 4*(N:Int)+4*(P+1)+15=4*((N:Int)+P+1)+15 by omega]
 simp [results,Tryz.results52,go_sem]
end
section
open Go.RowKit
def NmS (P:Nat) (w:World) (vn:Value) (ns:List ByteArray):Prop:=∃a c,vn = .slice a ns.length c/\ns.length<=c/\c<=9223372036854775807/\(0<ns.length->∃b off,a=some ⟨b,off,none⟩/\b≠P/\some b≠rbq 6 w P/\StrsC w b off ns)
theorem NmS.strs {P:Nat} {w:World} {vn:Value} {ns:List ByteArray} (h:NmS P w vn ns):Strs w vn ns:=by
 obtain ⟨a,c,h1,h2,h3,h4⟩:=h
 refine ⟨a,c,h1,h2,h3,fun h0 => ?_⟩
 obtain ⟨b,off,e,_,_,h5⟩:=h4 h0
 exact ⟨b,off,e,h5⟩
theorem NmS.wq {P:Nat} {w w':World} {vn:Value} {ns:List ByteArray} (h:NmS P w vn ns) (hW:Wq 6 P w w'):NmS P w' vn ns:=by
 obtain ⟨a,c,h1,h2,h3,h4⟩:=h
 refine ⟨a,c,h1,h2,h3,fun h0 => ?_⟩
 obtain ⟨b,off,e,hb,hr,h5⟩:=h4 h0
 refine ⟨b,off,e,hb,fun he => ?_,fun j hj=>hW.cell hb hr (h5 j hj)⟩
 have hlt:=World.block_lt_of_cell? _ _ (h5 0 h0)
 rcases hW.row b he.symm with h | h
 ·exact hr h.symm
 ·simp at hlt;omega
structure GC where
 w0:World
 P:Nat
 vg:Value
 vf:Value
 vn:Value
 gs:List Gl
 fs:List Fu
 ns:List ByteArray
 fr:Int
 en:Int
structure GC.Ok (C:GC):Prop where
 p:C.w0.heap.size<=C.P
 g:Globs C.w0 C.vg C.gs
 f:Funcs C.w0 C.vf C.fs
 gl:C.gs.length<=50
 gz : ∀g∈C.gs,0<=g.size/\g.size<=4000
 fl:C.fs.length<=50
 nl:C.ns.length<=1000
def envG (gs:List Gl) (fs:List Fu) (ns:List ByteArray):GEnv:=⟨ns.length,locN ns,fun s=>globA gs s 1048576,fnumG fs⟩
def GC.E (C:GC):GEnv:=envG C.gs C.fs C.ns
structure Gs (C:GC) (w:World) (its:List It) (l:Int):Prop where
 es:Es C.P w its C.vg C.vf C.vn C.fr C.en l
 bel:Below C.w0.heap.size C.w0 w
 nm:NmS C.P w C.vn C.ns
theorem Em.rlt {ti q n P:Nat} {w:World} {its:List It} {c:Nat->Value} (h:Em ti q n P w its c) {k:Nat} (hk:rbq q w P=some k):P<k/\k<w.heap.size:=by
 obtain ⟨v,h1,h2⟩:=h.row
 unfold rbq at hk
 rw [h1] at hk
 have:=World.ownsRow.lt h2 k hk
 omega
theorem Gs.wq {C:GC} (hC:C.Ok) {w w':World} {its its':List It} {l l':Int} (h:Gs C w its l) (he:Es C.P w' its' C.vg C.vf C.vn C.fr C.en l') (hW:Wq 6 C.P w w'):Gs C w' its' l':=by
 refine ⟨he,?_,h.nm.wq hW⟩
 have hp:=hC.p
 refine h.bel.trans ⟨hW.still.1,hW.still.2.1,hW.still.2.2,Nat.le_trans (Nat.le_refl _) hW.size,fun k hk => ?_⟩
 refine hW.block k ?_ (by omega) (fun e => ?_)
 ·have:=h.bel.size;omega
 ·have:=h.es.rlt e.symm
  omega
theorem Gs.below {C:GC} (hC:C.Ok) {w w':World} {its:List It} {l:Int} (h:Gs C w its l) (hb:Below w.heap.size w w'):Gs C w' its l:=h.wq hC (h.es.below hb) (Wq.below h.es.lt hb)
structure Wd (C:GC) (w:World) (its new:List It) (l':Int) (w':World):Prop where
 gs:Gs C w' (its++new) l'
 wq:Wq 6 C.P w w'
theorem Wd.trans {C:GC} {w w1 w2:World} {its a b:List It} {l l':Int} (h:Wd C w its a l w1) (h':Wd C w1 (its++a) b l' w2):Wd C w its (a++b) l' w2:=⟨by rw [<-List.append_assoc];exact h'.gs,h.wq.trans h'.wq⟩
theorem Wd.bel {C:GC} (hC:C.Ok) {w w1 w2:World} {its a:List It} {l:Int} (h:Wd C w its a l w1) (hb:Below w1.heap.size w1 w2):Wd C w its a l w2:=⟨h.gs.below hC hb,h.wq.trans (Wq.below h.gs.es.lt hb)⟩
theorem Wd.pre {C:GC} {w w1 w2:World} {its a:List It} {l:Int} (h:Wd C w1 its a l w2) (hb:Wq 6 C.P w w1):Wd C w its a l w2:=⟨h.gs,hb.trans h.wq⟩
theorem Wd.nil {C:GC} {w:World} {its:List It} {l:Int} (h:Gs C w its l):Wd C w its [] l w:=⟨by rw [List.append_nil];exact h,Wq.refl _ _ _⟩
theorem Wd.of {C:GC} (hC:C.Ok) {w w':World} {its new:List It} {l l':Int} (h:Gs C w its l) (hw:Wrote C.P w its new C.vg C.vf C.vn C.fr C.en l' w'):Wd C w its new l' w':=⟨h.wq hC hw.1 hw.2,hw.2⟩
theorem GC.vnS {C:GC} {w:World} (h:NmS C.P w C.vn C.ns) : ∃a c,C.vn = .slice a C.E.n c:=by
 obtain ⟨a,c,e,_⟩:=h
 exact ⟨a,c,e⟩
theorem GC.glob_bd (C:GC) (hC:C.Ok) (s:ByteArray):1048576<=C.E.glob s/\C.E.glob s<=2000000:=by
 have h:=globA_bd C.gs s hC.gz 1048576
 have:=hC.gl
 show 1048576<=globA C.gs s 1048576/\globA C.gs s 1048576<=2000000
 omega
theorem putC (C:GC) (hC:C.Ok) (w:World) (its:List It) (l:Int) (hG:Gs C w its l) (op rd s1 s2 im:Int) (hi:its.length<=9000000):Calls Tryz.prog 27 #[.pointer (some ⟨C.P,0,none⟩),.int .i64 op,.int .i64 rd,.int .i64 s1,.int .i64 s2,.int .i64 im] w fun e w'=>(∃u,e = .returned u)/\Wd C w its [insI op rd s1 s2 im] l w':=
 (putS C.P its _ _ _ _ _ _ op rd s1 s2 im w hG.es hi).mono (fun _ _ h=>⟨h.1,Wd.of hC hG h.2⟩)
theorem markC (C:GC) (hC:C.Ok) (w:World) (its:List It) (l:Int) (hG:Gs C w its l) (kd lb:Int) (hi:its.length<=9000000):Calls Tryz.prog 25 #[.pointer (some ⟨C.P,0,none⟩),.int .i64 kd,.int .i64 lb] w fun e w'=>(∃u,e = .returned u)/\Wd C w its [markI kd lb] l w':=
 (markG_any C.P its _ kd lb w hG.es hi).mono (fun _ _ h=>⟨h.1,Wd.of hC hG h.2⟩)
theorem branC (C:GC) (hC:C.Ok) (w:World) (its:List It) (l:Int) (hG:Gs C w its l) (op rg lb:Int) (hi:its.length<=9000000):Calls Tryz.prog 85 #[.pointer (some ⟨C.P,0,none⟩),.int .i64 op,.int .i64 rg,.int .i64 lb] w fun e w'=>(∃u,e = .returned u)/\Wd C w its [branI op rg lb] l w':=
 (branG_any C.P its _ op rg lb w hG.es hi).mono (fun _ _ h=>⟨h.1,Wd.of hC hG h.2⟩)
theorem labC (C:GC) (hC:C.Ok) (w:World) (its:List It) (l:Int) (hG:Gs C w its l) (hl:0<=l/\l<=1000000000):Calls Tryz.prog 53 #[.pointer (some ⟨C.P,0,none⟩)] w fun e w'=>e = .returned (.int .i64 l)/\Wd C w its [] (l+1) w':=
 (labG C.P its _ _ _ _ _ l w hG.es hl).mono (fun _ _ h=>⟨h.1,by have:=h.2.1;exact hG.wq hC (by rw [List.append_nil];exact this) h.2.2,h.2.2⟩)
theorem readC (C:GC) (hC:C.Ok) (w:World) (its:List It) (l:Int) (hG:Gs C w its l) (d sp:Int) (hi:its.length<=9000000) (hd:0<=d) (hd1:d<=1000000):Calls Tryz.prog 95 #[.pointer (some ⟨C.P,0,none⟩),.int .i64 d,.int .i64 sp] w fun e w'=>e = .returned (.int .i64 (regI d sp))/\Wd C w its (readL C.E d sp) l w':=by
 obtain ⟨an,cn,hv⟩:=GC.vnS hG.nm
 have hes:=hG.es
 rw [hv] at hes
 have hn:=hC.nl
 refine (readG_any C.P its _ _ an cn C.E _ _ l d sp w hes hi (by show C.ns.length<=_;omega) hd hd1).mono ?_
 rintro e w' ⟨h1,h2⟩
 rw [<-hv] at h2
 exact ⟨h1,Wd.of hC hG h2⟩
theorem writeC (C:GC) (hC:C.Ok) (w:World) (its:List It) (l:Int) (hG:Gs C w its l) (d:Int) (hi:its.length<=9000000) (hd:0<=d) (hd1:d<=1000000):Calls Tryz.prog 94 #[.pointer (some ⟨C.P,0,none⟩),.int .i64 d] w fun e w'=>(∃u,e = .returned u)/\Wd C w its (writeL C.E d) l w':=by
 obtain ⟨an,cn,hv⟩:=GC.vnS hG.nm
 have hes:=hG.es
 rw [hv] at hes
 have hn:=hC.nl
 refine (writeG_any C.P its _ _ an cn C.E _ _ l d w hes hi (by show C.ns.length<=_;omega) hd hd1).mono ?_
 rintro e w' ⟨h1,h2⟩
 rw [<-hv] at h2
 exact ⟨h1,Wd.of hC hG h2⟩
theorem wordC (C:GC) (hC:C.Ok) (w:World) (its:List It) (l:Int) (hG:Gs C w its l) (d:Int) (hd:0<=d) (hd1:d<=1000000):Calls Tryz.prog 106 #[.pointer (some ⟨C.P,0,none⟩),.int .i64 d] w fun e w'=>e = .returned (.int .i64 (wordI C.E d))/\w'=w:=by
 obtain ⟨an,cn,hv⟩:=GC.vnS hG.nm
 have hes:=hG.es
 rw [hv] at hes
 have hn:=hC.nl
 exact wordG_any C.P its _ _ an cn C.E _ _ l d w hes (by show C.ns.length<=_;omega) hd hd1
theorem answerC (C:GC) (hC:C.Ok) (w:World) (its:List It) (l:Int) (hG:Gs C w its l) (d:Int) (hi:its.length<=9000000) (hd:0<=d) (hd1:d<=1000000):Calls Tryz.prog 97 #[.pointer (some ⟨C.P,0,none⟩),.int .i64 d] w fun e w'=>(∃u,e = .returned u)/\Wd C w its (answerL C.E d) l w':=by
 obtain ⟨an,cn,hv⟩:=GC.vnS hG.nm
 have hes:=hG.es
 rw [hv] at hes
 have hn:=hC.nl
 refine (answerG_any C.P its _ _ an cn C.E _ _ l d w hes hi (by show C.ns.length<=_;omega) hd hd1).mono ?_
 rintro e w' ⟨h1,h2⟩
 rw [<-hv] at h2
 exact ⟨h1,Wd.of hC hG h2⟩
theorem loadC (C:GC) (hC:C.Ok) (w:World) (its:List It) (l:Int) (hG:Gs C w its l) (reg v:Int) (hi:its.length<=8999999) (hv : -2147483648<=v/\v<=2147483647):Calls Tryz.prog 83 #[.pointer (some ⟨C.P,0,none⟩),.int .i64 reg,.int .i64 v] w fun e w'=>(∃u,e = .returned u)/\Wd C w its (loadL reg v) l w':=
 (loadG_any C.P its _ _ _ _ _ l reg v w hG.es hi hv).mono (fun _ _ h=>⟨h.1,Wd.of hC hG h.2⟩)
theorem binC (C:GC) (hC:C.Ok) (w:World) (its:List It) (l:Int) (hG:Gs C w its l) (op r a b:Int) (hi:its.length<=8999999) (h0:0<=op) (h15:op<=15):Calls Tryz.prog 98 #[.pointer (some ⟨C.P,0,none⟩),.int .i64 op,.int .i64 r,.int .i64 a,.int .i64 b] w fun e w'=>(∃u,e = .returned u)/\Wd C w its (binL op r a b) l w':=
 (binG_any C.P its _ _ _ _ _ l op r a b w hG.es hi h0 h15).mono (fun _ _ h=>⟨h.1,Wd.of hC hG h.2⟩)
theorem localC (C:GC) (hC:C.Ok) (w:World) (its:List It) (l:Int) (hG:Gs C w its l) (s:ByteArray):Calls Tryz.prog 82 #[.pointer (some ⟨C.P,0,none⟩),.string s] w fun e w'=>e = .returned (.int .i64 (locG C.ns s))/\w'=w:=localG_any C.P its _ _ _ _ _ l C.ns s w hG.es hG.nm.strs (by have:=hC.nl;omega)
theorem globalC (C:GC) (hC:C.Ok) (w:World) (its:List It) (l:Int) (hG:Gs C w its l) (s:ByteArray) (vg vf:Value) (hvg:C.vg=vg) (hvf:C.vf=vf):Calls Tryz.prog 84 #[.agg #[vg,vf],.string s] w fun e w'=>e = .returned (.int .i64 (C.E.glob s))/\Below w.heap.size w w':=by
 subst hvg hvf
 have hf:=hC.f
 refine globalG_any C.gs s C.vg C.vf w ?_ (hC.g.below hG.bel) hC.gl hC.gz
 obtain ⟨a,c,e,_⟩:=hf
 exact ⟨a,_,c,e⟩
end
section
open Go.RowKit
theorem rbq_below {q P : Nat} {w w' : World} (hb : Below w.heap.size w w') (hP : P < w.heap.size) : rbq q w' P = rbq q w P := by
 unfold rbq
 rw [hb.cell (p := ⟨P, q, none⟩) hP]
theorem locG_some {ns : List ByteArray} {s : ByteArray} {z : Int} (h : locN ns s = some z) : locG ns s = z ∧ 0 ≤ z := by
 unfold locG
 rw [h]
 refine ⟨rfl, ?_⟩
 unfold locN at h
 obtain ⟨i, _, hi⟩ := Option.map_eq_some_iff.1 h
 omega
theorem locG_no {ns : List ByteArray} {s : ByteArray} (h : locN ns s = none) : locG ns s = -1 := by
 unfold locG
 rw [h]
def ExprS (C : GC) (e : List Nd) (g : Cod) : Prop := ∀ (v : Value) (w : World) (its : List It) (l d : Int), Nodes C.w0 v e → Gs C w its l → 0 ≤ d → d + 7 * e.length ≤ 1000000 → 0 ≤ l → l + e.length ≤ 100000000 → its.length + 24 * e.length ≤ 8000000 → Calls Tryz.prog 81 #[.pointer (some ⟨C.P, 0, none⟩), v, .int .i64 d] w fun x w' => (∃ u, x = .returned u) ∧ Wd C w its (g d l).1 (g d l).2 w'
end
section
open Go.RowKit
theorem callS_two (C:GC) (hC:C.Ok) (s:ByteArray) (A:Nat) (F:Nat->List Nd) (G:Nat->Cod) (va:Option Addr) (cap:Nat) (w:World) (its:List It) (l d:Int) (hA6:A<=6) (hcap:A<=cap) (hcap2:cap<=9223372036854775807) (hG:Gs C w its l)
  (hK:0<A->∃B,va=some ⟨B,0,none⟩/\∀i,i<A->∃vi,Nodes C.w0 vi (F i)/\∀w',Wq 6 C.P w w'->w'.cell? ⟨B,i,none⟩=some vi) (hX : ∀i,i<A->ExprS C (F i) (G i)) (hbd : ∀i,i<A->CB (F i).length (G i))
  (hd:0<=d) (hdl:d+7*((joinF F A).length+1)<=1000000) (hl0:0<=l) (hl2:l+(joinF F A).length+1<=100000000) (hil:its.length+24*((joinF F A).length+1)<=8000000) (hv:d<=5∨5<d) :
  Calls Tryz.prog 96 #[.pointer (some ⟨C.P,0,none⟩),.string s,.slice va A cap,.int .i64 d] w fun x w'=>(∃u,x = .returned u)/\Wd C w its (callC C.E s G A d l).1 (callC C.E s G A d l).2 w':=by
 rcases hv with hv | hv
 all_goals
  have HC:=hide hC
  have HK:=hide hK
  have HX:=hide hX
  have HAb:Hid (∀k,k<=A->(argsC G d k l).1.length<=24*(joinF F k).length/\l<=(argsC G d k l).2/\(argsC G d k l).2<=l+(joinF F k).length):=fun k hk=>args_cb k l (fun i hi=>hbd i (by omega))
  have HG:=hide hG
  first | (have q_:d<=5:=hv;obtain ⟨m,hm,hm5⟩ : ∃m:Nat,(min d 5).toNat=m/\(m:Int)=d:=⟨_,rfl,by omega⟩;clear q_) | (obtain ⟨m,hm,hm5⟩ : ∃m:Nat,(min d 5).toNat=m/\(m:Int)=5:=⟨_,rfl,by omega⟩)
  have HE:Hid (callC C.E s G A d l=((argsC G d A l).1++keepL C.E m++passL C.E d A++[markI 5 (C.E.fn s)]++backL C.E m++answerL C.E d,(argsC G d A l).2)):=by show _=_;simp only [callC,hm]
  clear hC hK hX hbd hG hm
  go_enter Tryz.func96,Tryz.ntmps96
  go_wp2_with fail
  go_loopw [8] (fun i wr=>∃k:Nat,k<=A/\i = .int .i64 k/\Wd C w its (argsC G d k l).1 (argsC G d k l).2 wr) (fun i _=>A-(RowKit.intOf i).toNat)
  case atStart=>exact ⟨0,Nat.zero_le _,rfl,Wd.nil HG.out⟩
  case round=>
   obtain ⟨k,hk,rfl,hW⟩:=hrel
   have HW:=hide hW
   clear hW
   by_cases hlt:k<A
   ·obtain ⟨B,rfl,hkc⟩:=HK.out (by omega)
    obtain ⟨vi,hn,hci⟩:=hkc k hlt
    have d0:=hci wr HW.out.wq
    have hj:=joinF_at F hlt
    obtain ⟨b1,b2,b3⟩:=HAb.out k hk
    have HCk:Hid (Calls Tryz.prog 81 #[.pointer (some ⟨C.P,0,none⟩),vi,.int .i64 (d+k)] wr fun x w'=>(∃u,x = .returned u)/\Wd C w its (argsC G d (k+1) l).1 (argsC G d (k+1) l).2 w'):=by
     refine (HX.out k hlt vi wr (its++(argsC G d k l).1) (argsC G d k l).2 (d+k) hn HW.out.gs (by omega) (by omega) (by omega) (by omega) (by simp only [l_a];omega)).mono ?_
     rintro x w' ⟨hu,hw'⟩
     exact ⟨hu,HW.out.trans hw'⟩
    have hwk:IntKind.i64.wrap (d+(k:Int))=d+(k:Int):=by simp [IntKind.wrap,IntKind.bits,IntKind.signed];omega
    clear hkc hci hn HW b1 b2 b3
    go_wp2_with fail
    refine HCk.out.mono ?_
    rintro x w2 ⟨⟨u,rfl⟩,hw2⟩
    have HR:=hide hw2
    clear hw2 HCk d0
    go_wp2_with fail
    go_roundw
    case rel=>exact ⟨k+1,by omega,by go_num,HR.out⟩
    case measure=>simp [RowKit.intOf];omega
   ·obtain rfl:k=A:=by omega
    obtain ⟨b1,b2,b3⟩:=HAb.out k hk
    have hjj:(joinF F k).length<=(joinF F k).length:=Nat.le_refl _
    generalize argsC G d k l=p at HW HE b1 b2 b3
    obtain ⟨a1,L⟩:=p
    simp only at b1 b2 b3
    have HW1:Hid (Wd C w its a1 L wr):=HW.out
    clear HW HX HAb HK
    go_wp2_with fail
    clear hlt hk
    go_loopw [9] (fun i wr=>∃j:Nat,j<=m/\i = .int .i64 j/\Wd C w its (a1++keepL C.E j) L wr) (fun i _=>m-(RowKit.intOf i).toNat)
    case atStart=>exact ⟨0,Nat.zero_le _,rfl,by rw [show keepL C.E 0 = [] from rfl,List.append_nil];exact HW1.out⟩
    case round=>
     clear HW1
     obtain ⟨j,hj,rfl,hW⟩:=hrel
     have HW:=hide hW
     clear hW
     have hkl:=keepL_len C.E j
     by_cases hlt:j<m
     ·have c1:(j:Int)<d:=by omega
      have c2:(j:Int)<5:=by omega
      go_wp2_with fail
      refine (regG_any (j:Int) 0 wr (by omega)).mono ?_
      rintro x w1 ⟨rfl,hb1⟩
      have HG1:Hid (Gs C w1 (its++(a1++keepL C.E j)) L):=HW.out.gs.below HC.out hb1
      have HW1:Hid (Wd C w its (a1++keepL C.E j) L w1):=HW.out.bel HC.out hb1
      clear hb1
      go_wp2_with fail
      refine (wordC C HC.out w1 _ _ HG1.out (j:Int) (by omega) (by omega)).mono ?_
      rintro x w2 ⟨rfl,hw2⟩
      rw [hw2]
      clear hw2
      go_wp2_with fail
      refine (putC C HC.out w1 _ _ HG1.out 11 0 2 (regI (j:Int) 0) (wordI C.E (j:Int)) (by simp only [l_a];omega)).mono ?_
      rintro x w3 ⟨⟨u,rfl⟩,hw3⟩
      have HR:Hid (Wd C w its (a1++keepL C.E (j+1)) L w3):=by
       have h:=HW1.out.trans hw3
       rw [List.append_assoc] at h
       exact h
      clear hw3 HG1 HW1 HW
      go_wp2_with fail
      go_roundw
      case rel=>exact ⟨j+1,by omega,by go_num,HR.out⟩
      case measure=>simp [RowKit.intOf];omega
     ·obtain rfl:j=m:=by omega
      have HW1:Hid (Wd C w its (a1++keepL C.E j) L wr):=HW.out
      first | (have q_:d<=5:=hv;have c1 : ¬((j:Int)<d):=(by omega);clear q_) | (have c1:(j:Int)<d:=(by omega);have c2 : ¬((j:Int)<5):=(by omega))
      clear HW
      go_wp2_with fail
      first | clear hlt hj c1 c2 | clear hlt hj c1
      go_loopw [10] (fun i wr=>∃i_:Nat,i_<=k/\i = .int .i64 i_/\Wd C w its (a1++keepL C.E j++passL C.E d i_) L wr) (fun i _=>k-(RowKit.intOf i).toNat)
      case atStart=>exact ⟨0,Nat.zero_le _,rfl,by rw [show passL C.E d 0 = [] from rfl,List.append_nil];exact HW1.out⟩
      case round=>
       clear HW1
       obtain ⟨i_,hi_,rfl,hW⟩:=hrel
       have HW:=hide hW
       clear hW
       have hpl:=passL_len C.E d i_
       by_cases hlt:i_<k
       ·have hw1:IntKind.i64.wrap (d+(i_:Int))=d+(i_:Int):=by simp [IntKind.wrap,IntKind.bits,IntKind.signed];omega
        have hw2:IntKind.i64.wrap (10+(i_:Int))=10+(i_:Int):=by simp [IntKind.wrap,IntKind.bits,IntKind.signed];omega
        by_cases h5:d+(i_:Int)<5
        ·go_wp2_with fail
         refine (regG_any (d+(i_:Int)) 0 wr (by omega)).mono ?_
         rintro x w1 ⟨rfl,hb1⟩
         have HG1:Hid (Gs C w1 (its++(a1++keepL C.E j++passL C.E d i_)) L):=HW.out.gs.below HC.out hb1
         have HW1:Hid (Wd C w its (a1++keepL C.E j++passL C.E d i_) L w1):=HW.out.bel HC.out hb1
         clear hb1
         go_wp2_with fail
         refine (putC C HC.out w1 _ _ HG1.out 12 (10+(i_:Int)) (regI (d+(i_:Int)) 0) 0 0 (by simp only [l_a];omega)).mono ?_
         rintro x w3 ⟨⟨u,rfl⟩,hw3⟩
         have HR:Hid (Wd C w its (a1++keepL C.E j++passL C.E d (i_+1)) L w3):=by
          have h:=HW1.out.trans hw3
          show Wd _ _ _ _ _ _
          rw [show passL C.E d (i_+1)=passL C.E d i_++[insI 12 (10+(i_:Int)) (regI (d+(i_:Int)) 0) 0 0] by simp only [passL];rw [if_pos (by omega)],<-List.append_assoc]
          exact h
         clear hw3 HG1 HW1 HW
         go_wp2_with fail
         go_roundw
         case rel=>exact ⟨i_+1,by omega,by go_num,HR.out⟩
         case measure=>simp [RowKit.intOf];omega
        ·go_wp2_with fail
         refine (wordC C HC.out wr _ _ HW.out.gs (d+(i_:Int)) (by omega) (by omega)).mono ?_
         rintro x w2 ⟨rfl,hw2'⟩
         rw [hw2']
         clear hw2'
         go_wp2_with fail
         refine (putC C HC.out wr _ _ HW.out.gs 10 (10+(i_:Int)) 2 0 (wordI C.E (d+(i_:Int))) (by simp only [l_a];omega)).mono ?_
         rintro x w3 ⟨⟨u,rfl⟩,hw3⟩
         have HR:Hid (Wd C w its (a1++keepL C.E j++passL C.E d (i_+1)) L w3):=by
          have h:=HW.out.trans hw3
          show Wd _ _ _ _ _ _
          rw [show passL C.E d (i_+1)=passL C.E d i_++[insI 10 (10+(i_:Int)) 2 0 (wordI C.E (d+(i_:Int)))] by simp only [passL];rw [if_neg (by omega)],<-List.append_assoc]
          exact h
         clear hw3 HW
         go_wp2_with fail
         go_roundw
         case rel=>exact ⟨i_+1,by omega,by go_num,HR.out⟩
         case measure=>simp [RowKit.intOf];omega
       ·obtain rfl:i_=k:=by omega
        obtain ⟨ag,cg,hvg,-⟩:=HC.out.g
        obtain ⟨af,cf,hvf,-⟩:=HC.out.f
        have p0:wr.cell? ⟨C.P,0,none⟩=some C.vg:=HW.out.gs.es.oth 0 (by decide) (by decide)
        have p1:wr.cell? ⟨C.P,1,none⟩=some C.vf:=HW.out.gs.es.oth 1 (by decide) (by decide)
        rw [hvg] at p0
        rw [hvf] at p1
        have HF:Hid (Calls Tryz.prog 26 #[.agg #[.slice ag C.gs.length cg,.slice af C.fs.length cf],.string s] wr fun e w'=>e = .returned (.int .i64 (C.E.fn s))/\Bl wr w'):=by
         have:=l3func_any C.fs C.vg C.vf s wr (by have:=HC.out.fl;omega) (HC.out.f.below HW.out.gs.bel)
         rw [hvg,hvf] at this
         exact this
        clear hvg hvf
        have HW1:Hid (Wd C w its (a1++keepL C.E j++passL C.E d i_) L wr):=HW.out
        clear HW
        generalize hfs:C.E.fn s=fz at HF HE
        go_wp2_with fail
        refine HF.out.mono ?_
        rintro x w1 ⟨rfl,hb1⟩
        have HG1:Hid (Gs C w1 (its++(a1++keepL C.E j++passL C.E d i_)) L):=HW1.out.gs.below HC.out hb1
        have HW2:Hid (Wd C w its (a1++keepL C.E j++passL C.E d i_) L w1):=HW1.out.bel HC.out hb1
        clear hb1 HW1 HF p0 p1
        go_wp2_with fail
        refine (markC C HC.out w1 _ _ HG1.out 5 fz (by simp only [l_a];omega)).mono ?_
        rintro x w2 ⟨⟨u,rfl⟩,hw2⟩
        have HW3:Hid (Wd C w its (a1++keepL C.E j++passL C.E d i_++[markI 5 fz]) L w2):=HW2.out.trans hw2
        clear hw2 HW2 HG1
        go_wp2_with fail
        clear hlt hi_
        go_loopw [11] (fun i wr=>∃r:Nat,r<=j/\i = .int .i64 r/\Wd C w its (a1++keepL C.E j++passL C.E d i_++[markI 5 fz]++backL C.E r) L wr) (fun i _=>j-(RowKit.intOf i).toNat)
        case atStart=>exact ⟨0,Nat.zero_le _,rfl,by rw [show backL C.E 0 = [] from rfl,List.append_nil];exact HW3.out⟩
        case round=>
         clear HW3
         obtain ⟨r,hr,rfl,hW⟩:=hrel
         have HW:=hide hW
         clear hW
         have hbl:=backL_len C.E r
         by_cases hlt:r<j
         ·have c1:(r:Int)<d:=by omega
          have c2:(r:Int)<5:=by omega
          go_wp2_with fail
          refine (regG_any (r:Int) 0 wr (by omega)).mono ?_
          rintro x w1 ⟨rfl,hb1⟩
          have HG1:Hid (Gs C w1 (its++(a1++keepL C.E j++passL C.E d i_++[markI 5 fz]++backL C.E r)) L):=HW.out.gs.below HC.out hb1
          have HW1:Hid (Wd C w its (a1++keepL C.E j++passL C.E d i_++[markI 5 fz]++backL C.E r) L w1):=HW.out.bel HC.out hb1
          clear hb1
          go_wp2_with fail
          refine (wordC C HC.out w1 _ _ HG1.out (r:Int) (by omega) (by omega)).mono ?_
          rintro x w2 ⟨rfl,hw2⟩
          rw [hw2]
          clear hw2
          go_wp2_with fail
          refine (putC C HC.out w1 _ _ HG1.out 10 (regI (r:Int) 0) 2 0 (wordI C.E (r:Int)) (by simp only [l_a,l_c,l_n];omega)).mono ?_
          rintro x w3 ⟨⟨u,rfl⟩,hw3⟩
          have HR:Hid (Wd C w its (a1++keepL C.E j++passL C.E d i_++[markI 5 fz]++backL C.E (r+1)) L w3):=by
           have h:=HW1.out.trans hw3
           rw [List.append_assoc] at h
           exact h
          clear hw3 HG1 HW1 HW
          go_wp2_with fail
          go_roundw
          case rel=>exact ⟨r+1,by omega,by go_num,HR.out⟩
          case measure=>simp [RowKit.intOf];omega
         ·obtain rfl:r=j:=by omega
          first | (have q_:d<=5:=hv;have c1 : ¬((r:Int)<d):=(by omega);clear q_) | (have c1:(r:Int)<d:=(by omega);have c2 : ¬((r:Int)<5):=(by omega))
          have HW1:Hid (Wd C w its (a1++keepL C.E r++passL C.E d i_++[markI 5 fz]++backL C.E r) L wr):=HW.out
          clear HW
          go_wp2_with fail
          refine (answerC C HC.out wr _ _ HW1.out.gs d (by simp only [l_a,l_c,l_n];omega) (by omega) (by omega)).mono ?_
          rintro x w3 ⟨⟨u,rfl⟩,hw3⟩
          have HR:Hid (Wd C w its (a1++keepL C.E r++passL C.E d i_++[markI 5 fz]++backL C.E r++answerL C.E d) L w3):=HW1.out.trans hw3
          clear hw3 HW1
          go_wp2_with fail
          exact bodyPost_end (v:=.tuple #[]) (by simp [results,Tryz.results96,go_sem]) rfl ⟨⟨_,rfl⟩,by rw [HE.out];exact HR.out⟩
end
section
open Go.RowKit
set_option maxRecDepth 100000 in
set_option maxHeartbeats 16000000 in
theorem exprS_kind (C : GC) (hC : C.Ok) (e : List Nd) (A : Nat) (b : Nat → Nat) (G : Nat → Cod) (hc0 : Cut e A b) (hl1 : e.length ≤ 1048576) (hbd : ∀ i, i < A → CB (kid e b i).length (G i)) (hX : ∀ i, i < A → ExprS C (kid e b i) (G i)) (hkd : (rootN e).kind = 1 ∨ (rootN e).kind = 2 ∨ (rootN e).kind = 3 ∨ (rootN e).kind = 4 ∨ (rootN e).kind = 5 ∨ (rootN e).kind = 6 ∨ (rootN e).kind = 7 ∨ (rootN e).kind = 8 ∨ (rootN e).kind = 9) :
  ExprS C e (genN C.E (rootN e) A G) := by
 intro v w its l d hN hG hd hdl hl0 hl2 hil
 have HC : Hid C.Ok := hC
 have HX : Hid (∀ i, i < A → ExprS C (kid e b i) (G i)) := hX
 have HBd : Hid (∀ i, i < A → CB (kid e b i).length (G i)) := hbd
 have hclen := cut_len hc0
 have he := hc0.len
 have HGd : Hid (nodeB (rootN e) = true) := hc0.root_good
 have HA : Hid (arity (rootN e) = A) := hc0.ar
 have HR : Hid (Calls Tryz.prog 79 #[v] w fun r w' => r = .returned (.agg #[.int .i64 (rootN e).kind, .int .i64 (rootN e).val, .string (rootN e).name]) ∧ Below w.heap.size w w') := by
  have := root_any _ e w he hl1 (hN.below hG.bel)
  rw [← rootN_eq e he] at this
  exact this
 have HK : Hid (∀ W : World, Below w.heap.size w W → Calls Tryz.prog 80 #[v] W fun r w' => ∃ v', r = .returned v' ∧ Kids C.w0 w' W.heap.size v' e b A ∧ Below W.heap.size W w') := fun W hW => kids_any C.w0 v e A b W hl1 hN (hG.bel.trans (hW.mono hG.bel.size)) hc0
 have HG : Hid (Gs C w its l) := hG
 clear hN hc0 hX hbd hG hC
 generalize hR : rootN e = R at HGd HA HR hkd ⊢
 clear hR
 obtain ⟨nk, nv, nm⟩ := R
 simp only at HR hkd
 have hba : ∀ w1 : World, Below w.heap.size w w1 → ∀ o, Below w.heap.size w (w1.alloc o) := fun w1 h o => h.alloc h.size o
 go_enter Tryz.func81, Tryz.ntmps81
 go_wp2_with fail
 refine HR.out.mono ?_
 rintro x w1 ⟨rfl, hb1⟩
 go_wp2_with fail
 refine (HK.out _ (hba _ hb1 _)).mono ?_
 rintro x W ⟨vk, rfl, hKd, hb2⟩
 have hbW : Below w.heap.size w W := (hba _ hb1 _).trans (hb2.mono (by have := hb1.size; simp; omega))
 have g0 : W.cell? ⟨w1.heap.size, 0, none⟩ = some (.int .i64 nk) := by rw [hb2.cell (by simp)]; simp
 have g1 : W.cell? ⟨w1.heap.size, 1, none⟩ = some (.int .i64 nv) := by rw [hb2.cell (by simp)]; simp
 have g2 : W.cell? ⟨w1.heap.size, 2, none⟩ = some (.string nm) := by rw [hb2.cell (by simp)]; simp
 have hk1 : w.heap.size ≤ w1.heap.size := hb1.size
 have HKd : Hid (Kids C.w0 W (w1.alloc (.cells #[.int .i64 nk, .int .i64 nv, .string nm] 120)).heap.size vk e b A) := hKd
 have HBW : Hid (Below w.heap.size w W) := hbW
 have hsz1 : w1.heap.size ≤ (w1.alloc (.cells #[.int .i64 nk, .int .i64 nv, .string nm] 120)).heap.size := by simp
 generalize (w1.alloc (.cells #[.int .i64 nk, .int .i64 nv, .string nm] 120)).heap.size = N1 at HKd hsz1
 clear hba hb1 hb2 HR HK hKd hbW
 generalize w1.heap.size = K0 at g0 g1 g2 hk1 hsz1 ⊢
 have HG0 : Hid ((W.cell? ⟨K0, 0, none⟩ = some (.int .i64 nk)) ∧ (W.cell? ⟨K0, 1, none⟩ = some (.int .i64 nv)) ∧ (W.cell? ⟨K0, 2, none⟩ = some (.string nm))) := ⟨g0, g1, g2⟩
 clear g0 g1 g2
 go_wp2_with fail
 refine (regG_any d 30 W hd).mono ?_
 rintro x W2 ⟨rfl, hb3⟩
 have HB2 : Hid (Below w.heap.size w W2) := HBW.out.trans (hb3.mono HBW.out.size)
 have HG2 : Hid (Gs C W2 its l) := HG.out.below HC.out HB2.out
 have HWw : Hid (∀ {new l' w'}, Wd C W2 its new l' w' → Wd C w its new l' w') := fun h => h.pre (Wq.below HG.out.es.lt HB2.out)
 have HK2 : Hid (Kids C.w0 W2 N1 vk e b A) := HKd.out.below hb3
 have HNe : Hid (∀ k, w.heap.size ≤ k → k ≠ C.P ∧ some k ≠ rbq 6 W2 C.P) := fun k hk => by
  have hp := HG.out.es.lt
  refine ⟨by omega, fun h => ?_⟩
  rw [rbq_below HB2.out hp] at h
  have := HG.out.es.rlt h.symm
  omega
 have HCl : Hid (∀ w', Wq 6 C.P W2 w' → (w'.cell? ⟨K0, 0, none⟩ = some (.int .i64 nk)) ∧ (w'.cell? ⟨K0, 1, none⟩ = some (.int .i64 nv)) ∧ (w'.cell? ⟨K0, 2, none⟩ = some (.string nm))) := fun w' h => by
  obtain ⟨a1, a2⟩ := HNe.out K0 hk1
  obtain ⟨c0, c1, c2⟩ := HG0.out
  have hlt : K0 < W.heap.size := World.block_lt_of_cell? _ _ c0
  exact ⟨h.cell a1 a2 ((hb3.cell (p := ⟨K0, 0, none⟩) hlt).trans c0), h.cell a1 a2 ((hb3.cell (p := ⟨K0, 1, none⟩) hlt).trans c1), h.cell a1 a2 ((hb3.cell (p := ⟨K0, 2, none⟩) hlt).trans c2)⟩
 obtain ⟨vka, vkc, rfl, hAc, hAc2, hk3⟩ := HK2.out
 have HKc : Hid (0 < A → ∃ B, vka = some ⟨B, 0, none⟩ ∧ ∀ i, i < A → ∃ vi, Nodes C.w0 vi (kid e b i) ∧ ∀ w', Wq 6 C.P W2 w' → w'.cell? ⟨B, i, none⟩ = some vi) := fun h0 => by
  obtain ⟨B, rfl, hB1, hB2, hB3⟩ := hk3 h0
  obtain ⟨a1, a2⟩ := HNe.out B (by omega)
  refine ⟨B, rfl, fun i hi => ?_⟩
  obtain ⟨vi, h5, h6⟩ := hB3 i hi
  exact ⟨vi, h6, fun w' h => h.cell a1 a2 h5⟩
 clear hk3
 clear HNe HK2 HKd HG0 hb3 HBW HB2 hk1 hsz1
 obtain ⟨g0, g1, g2⟩ := HCl.out W2 (Wq.refl _ _ _)
 clear g1 g2
 rcases hkd with rfl | rfl | rfl | rfl | rfl | rfl | rfl | rfl | rfl
 ·as_aux_lemma =>
   have hnv : -2147483648 ≤ nv ∧ nv ≤ 2147483647 := by have := HGd.out; simp [nodeB] at this; omega
   have HE : Hid (genN C.E ⟨1, nv, nm⟩ A G d l = (loadL (regI d 30) nv ++ writeL C.E d, l)) := by show _ = _; simp [genN]
   obtain ⟨g0, g1, g2⟩ := HCl.out W2 (Wq.refl _ _ _)
   clear g2
   go_wp2_with fail
   refine (loadC C HC.out W2 its (l) HG2.out (regI d 30) nv (by omega) hnv).mono ?_
   rintro x w_1 ⟨⟨u_1, rfl⟩, hw_1⟩
   have HW_1 : Hid (Wd C W2 its (loadL (regI d 30) nv) (l) w_1) := hw_1
   clear hw_1
   try clear g0
   try clear g1
   try clear g2
   try clear k0
   try clear k1
   go_wp2_with fail
   refine (writeC C HC.out w_1 (its ++ (loadL (regI d 30) nv)) (l) HW_1.out.gs d (by have r_1 := readL_len C.E d 30; have r_2 := readL_len C.E (d + 1) 31; have r_3 := writeL_len C.E d; have r_4 := answerL_len C.E d; have r_5 := loadL_len (regI d 30) nv; (try simp only [List.length_append, List.length_cons, List.length_nil]); omega) (by omega) (by omega)).mono ?_
   rintro x w_2 ⟨⟨u_2, rfl⟩, hw_2⟩
   have HW_2 : Hid (Wd C W2 its (loadL (regI d 30) nv ++ writeL C.E d) (l) w_2) := HW_1.out.trans hw_2
   clear hw_2
   try clear g0
   try clear g1
   try clear g2
   try clear k0
   try clear k1
   go_wp2_with fail
   have HZ := HWw.out HW_2.out
   refine bodyPost_end (v := .tuple #[]) (by simp [results, Tryz.results81, go_sem]) rfl ⟨⟨_, rfl⟩, ?_⟩
   rw [HE.out]
   simp only [List.append_assoc, List.cons_append, List.nil_append] at HZ ⊢
   exact HZ
 ·as_aux_lemma =>
   have HL := localC C HC.out W2 its l HG2.out nm
   obtain ⟨g0, g1, g2⟩ := HCl.out W2 (Wq.refl _ _ _)
   clear g1
   go_wp2_with fail
   refine HL.mono ?_
   rintro x w0 ⟨rfl, hw0⟩
   rw [hw0]
   clear HL g0 g2 hw0
   cases hloc : locN C.ns nm with
   | some z =>
    have hz : locG C.ns nm = z ∧ 0 ≤ z := locG_some hloc
    rw [hz.1]
    have HE : Hid (genN C.E ⟨2, nv, nm⟩ A G d l = ([insI 10 (regI d 30) 2 0 z] ++ writeL C.E d, l)) := by show _ = _; simp [genN, varL, GC.E, envG, hloc]
    have hz0 := hz.2
    clear hz
    go_wp2_with fail
    refine (putC C HC.out W2 its (l) HG2.out 10 (regI d 30) 2 0 z (by have r_1 := readL_len C.E d 30; have r_2 := readL_len C.E (d + 1) 31; have r_3 := writeL_len C.E d; have r_4 := answerL_len C.E d; (try simp only [List.length_append, List.length_cons, List.length_nil]); omega)).mono ?_
    rintro x w_1 ⟨⟨u_1, rfl⟩, hw_1⟩
    have HW_1 : Hid (Wd C W2 its ([insI 10 (regI d 30) 2 0 z]) (l) w_1) := hw_1
    clear hw_1
    try clear g0
    try clear g1
    try clear g2
    try clear k0
    try clear k1
    go_wp2_with fail
    refine (writeC C HC.out w_1 (its ++ ([insI 10 (regI d 30) 2 0 z])) (l) HW_1.out.gs d (by have r_1 := readL_len C.E d 30; have r_2 := readL_len C.E (d + 1) 31; have r_3 := writeL_len C.E d; have r_4 := answerL_len C.E d; (try simp only [List.length_append, List.length_cons, List.length_nil]); omega) (by omega) (by omega)).mono ?_
    rintro x w_2 ⟨⟨u_2, rfl⟩, hw_2⟩
    have HW_2 : Hid (Wd C W2 its ([insI 10 (regI d 30) 2 0 z] ++ writeL C.E d) (l) w_2) := HW_1.out.trans hw_2
    clear hw_2
    try clear g0
    try clear g1
    try clear g2
    try clear k0
    try clear k1
    go_wp2_with fail
    have HZ := HWw.out HW_2.out
    refine bodyPost_end (v := .tuple #[]) (by simp [results, Tryz.results81, go_sem]) rfl ⟨⟨_, rfl⟩, ?_⟩
    rw [HE.out]
    simp only [List.append_assoc, List.cons_append, List.nil_append] at HZ ⊢
    exact HZ
   | none =>
    have hz : locG C.ns nm = -1 := locG_no hloc
    rw [hz]
    have HE : Hid (genN C.E ⟨2, nv, nm⟩ A G d l = (loadL 31 (C.E.glob nm) ++ [insI 10 (regI d 30) 31 0 0] ++ writeL C.E d, l)) := by show _ = _; simp [genN, varL, GC.E, envG, hloc]
    clear hz
    go_wp2_with fail
    obtain ⟨g0, g1, g2⟩ := HCl.out W2 (Wq.refl _ _ _)
    clear g0 g1
    obtain ⟨ag, cg, hvg, -⟩ := HC.out.g
    obtain ⟨af, cf, hvf, -⟩ := HC.out.f
    have p0 : W2.cell? ⟨C.P, 0, none⟩ = some C.vg := HG2.out.es.oth 0 (by decide) (by decide)
    have p1 : W2.cell? ⟨C.P, 1, none⟩ = some C.vf := HG2.out.es.oth 1 (by decide) (by decide)
    rw [hvg] at p0
    rw [hvf] at p1
    have HGl : Hid (Calls Tryz.prog 84 #[.agg #[.slice ag C.gs.length cg, .slice af C.fs.length cf], .string nm] W2.drew fun e w' => e = .returned (.int .i64 (C.E.glob nm)) ∧ Below W2.heap.size W2 w' ∧ w'.cell? ⟨C.P, 0, none⟩ = some (.slice ag C.gs.length cg) ∧ w'.cell? ⟨C.P, 1, none⟩ = some (.slice af C.fs.length cf) ∧ w'.cell? ⟨K0, 2, none⟩ = some (.string nm)) := by
     have hlt := HG2.out.es.lt
     have hlk := World.block_lt_of_cell? _ _ g2
     refine (globalC C HC.out W2.drew its (l) (HG2.out.below HC.out (Below.refl _ _).drew) nm _ _ hvg hvf).mono ?_
     rintro e w' ⟨he, hb⟩
     have hb' : Below W2.heap.size W2 w' := (Below.refl _ _).drew.trans hb
     exact ⟨he, hb', (hb'.cell (p := ⟨C.P, 0, none⟩) hlt).trans p0, (hb'.cell (p := ⟨C.P, 1, none⟩) hlt).trans p1, (hb'.cell (p := ⟨K0, 2, none⟩) hlk).trans g2⟩
    have hgb := GC.glob_bd C HC.out nm
    have HLd : Hid (∀ W, Below W2.heap.size W2 W → Calls Tryz.prog 83 #[.pointer (some ⟨C.P, 0, none⟩), .int .i64 31, .int .i64 (C.E.glob nm)] W fun e w' => (∃ u, e = .returned u) ∧ Wd C W2 its (loadL 31 (C.E.glob nm)) (l) w' ∧ w'.cell? ⟨C.P, 0, none⟩ = some (.slice ag C.gs.length cg) ∧ w'.cell? ⟨C.P, 1, none⟩ = some (.slice af C.fs.length cf) ∧ w'.cell? ⟨K0, 2, none⟩ = some (.string nm)) := fun W hW => by
     refine (loadC C HC.out W its (l) (HG2.out.below HC.out hW) 31 _ (by have r_1 := readL_len C.E d 30; have r_2 := readL_len C.E (d + 1) 31; have r_3 := writeL_len C.E d; have r_4 := answerL_len C.E d; have r_5 := loadL_len 31 (C.E.glob nm); (try simp only [List.length_append, List.length_cons, List.length_nil]); omega) (by omega)).mono ?_
     rintro e w' ⟨hu, h2⟩
     have hwd := h2.pre (Wq.below HG2.out.es.lt hW)
     have y0 : w'.cell? ⟨C.P, 0, none⟩ = some C.vg := hwd.gs.es.oth 0 (by decide) (by decide)
     have y1 : w'.cell? ⟨C.P, 1, none⟩ = some C.vf := hwd.gs.es.oth 1 (by decide) (by decide)
     rw [hvg] at y0
     rw [hvf] at y1
     exact ⟨hu, hwd, y0, y1, (HCl.out w' (Wq.trans (Wq.refl _ _ _) hwd.wq)).2.2⟩
    clear hvg hvf
    have q0 : W2.drew.cell? ⟨C.P, 0, none⟩ = some (.slice ag C.gs.length cg) := p0
    have q1 : W2.drew.cell? ⟨C.P, 1, none⟩ = some (.slice af C.fs.length cf) := p1
    have q2 : W2.drew.cell? ⟨K0, 2, none⟩ = some (.string nm) := g2
    generalize hgz : C.E.glob nm = gz at HGl HLd hgb
    go_wp2_with fail
    go_region_held3 (fun W => W.cell? ⟨C.P, 0, none⟩ = some (.slice ag C.gs.length cg) ∧ W.cell? ⟨C.P, 1, none⟩ = some (.slice af C.fs.length cf) ∧ W.cell? ⟨K0, 2, none⟩ = some (.string nm)) (go_simp) (first | (with_reducible refine Calls.mono HGl.out ?_; rintro x wg ⟨rfl, hbg, z0, z1, z2⟩) | (with_reducible refine Calls.mono (HLd.out wg hbg) ?_; rintro x wl ⟨⟨ul, rfl⟩, hwl, y0, y1, y2⟩))
    rw [← hgz] at hwl
    have HW_1 : Hid (Wd C W2 its (loadL 31 (C.E.glob nm)) (l) wl) := hwl
    clear hwl hbg p0 p1 q0 q1 q2 y0 y1 y2 z0 z1 z2 g2 HGl HLd
    go_wp2_with fail
    refine (putC C HC.out wl (its ++ (loadL 31 (C.E.glob nm))) (l) HW_1.out.gs 10 (regI d 30) 31 0 0 (by have r_1 := readL_len C.E d 30; have r_2 := readL_len C.E (d + 1) 31; have r_3 := writeL_len C.E d; have r_4 := answerL_len C.E d; have r_5 := loadL_len 31 (C.E.glob nm); (try simp only [List.length_append, List.length_cons, List.length_nil]); omega)).mono ?_
    rintro x w_2 ⟨⟨u_2, rfl⟩, hw_2⟩
    have HW_2 : Hid (Wd C W2 its (loadL 31 (C.E.glob nm) ++ [insI 10 (regI d 30) 31 0 0]) (l) w_2) := HW_1.out.trans hw_2
    clear hw_2
    try clear g0
    try clear g1
    try clear g2
    try clear k0
    try clear k1
    go_wp2_with fail
    refine (writeC C HC.out w_2 (its ++ (loadL 31 (C.E.glob nm) ++ [insI 10 (regI d 30) 31 0 0])) (l) HW_2.out.gs d (by have r_1 := readL_len C.E d 30; have r_2 := readL_len C.E (d + 1) 31; have r_3 := writeL_len C.E d; have r_4 := answerL_len C.E d; have r_5 := loadL_len 31 (C.E.glob nm); (try simp only [List.length_append, List.length_cons, List.length_nil]); omega) (by omega) (by omega)).mono ?_
    rintro x w_3 ⟨⟨u_3, rfl⟩, hw_3⟩
    have HW_3 : Hid (Wd C W2 its (loadL 31 (C.E.glob nm) ++ [insI 10 (regI d 30) 31 0 0] ++ writeL C.E d) (l) w_3) := HW_2.out.trans hw_3
    clear hw_3
    try clear g0
    try clear g1
    try clear g2
    try clear k0
    try clear k1
    go_wp2_with fail
    have HZ := HWw.out HW_3.out
    refine bodyPost_end (v := .tuple #[]) (by simp [results, Tryz.results81, go_sem]) rfl ⟨⟨_, rfl⟩, ?_⟩
    rw [HE.out]
    simp only [List.append_assoc, List.cons_append, List.nil_append] at HZ ⊢
    exact HZ
 ·as_aux_lemma =>
   have hA1 : A = 1 := by have := HA.out; simp [arity] at this; omega
   subst hA1
   rw [joinF_one] at hclen
   obtain ⟨B, rfl, hkc⟩ := HKc.out (by omega)
   obtain ⟨v0, n0, hk0⟩ := hkc 0 (by omega)
   obtain ⟨q0a, q0b, q0c⟩ := HBd.out 0 (by omega) (d) (l)
   obtain ⟨c0, m0, hG0⟩ : ∃ c m, G 0 (d) (l) = (c, m) := ⟨_, _, rfl⟩
   rw [hG0] at q0a q0b q0c
   simp only at q0a q0b q0c
   have HC0 : Hid (∀ (W : World) (its' : List It), Gs C W its' (l) → its'.length + 24 * (kid e b 0).length ≤ 8000000 → Calls Tryz.prog 81 #[.pointer (some ⟨C.P, 0, none⟩), v0, .int .i64 (d)] W fun x w' => (∃ u, x = .returned u) ∧ Wd C W its' c0 m0 w') := fun W its' hg hln => by
     have := HX.out 0 (by omega) v0 W its' (l) (d) n0 hg (by omega) (by omega) (by omega) (by omega) hln
     rw [hG0] at this
     exact this
   have HE : Hid (genN C.E ⟨3, nv, nm⟩ 1 G d l = (c0 ++ readL C.E d 30 ++ [insI 18 (regI d 30) (regI d 30) 0 2] ++ loadL 31 (C.E.glob nm) ++ [insI 21 31 31 (regI d 30) 0, insI 10 (regI d 30) 31 0 0] ++ writeL C.E d, m0)) := by show _ = _; simp [genN, hG0]
   have k0 := hk0 W2 (Wq.refl _ _ _)
   go_wp2_with fail
   refine (HC0.out W2 its HG2.out (by have r_1 := readL_len C.E d 30; have r_2 := readL_len C.E (d + 1) 31; have r_3 := writeL_len C.E d; have r_4 := answerL_len C.E d; have r_5 := loadL_len 31 (C.E.glob nm); (try simp only [List.length_append, List.length_cons, List.length_nil]); omega)).mono ?_
   rintro x w_1 ⟨⟨u_1, rfl⟩, hw_1⟩
   have HW_1 : Hid (Wd C W2 its (c0) (m0) w_1) := hw_1
   clear hw_1
   try clear g0
   try clear g1
   try clear g2
   try clear k0
   try clear k1
   go_wp2_with fail
   refine (readC C HC.out w_1 (its ++ (c0)) (m0) HW_1.out.gs (d) 30 (by have r_1 := readL_len C.E d 30; have r_2 := readL_len C.E (d + 1) 31; have r_3 := writeL_len C.E d; have r_4 := answerL_len C.E d; have r_5 := loadL_len 31 (C.E.glob nm); (try simp only [List.length_append, List.length_cons, List.length_nil]); omega) (by omega) (by omega)).mono ?_
   rintro x w_2 ⟨rfl, hw_2⟩
   have HW_2 : Hid (Wd C W2 its (c0 ++ readL C.E (d) 30) (m0) w_2) := HW_1.out.trans hw_2
   clear hw_2
   try clear g0
   try clear g1
   try clear g2
   try clear k0
   try clear k1
   go_wp2_with fail
   refine (putC C HC.out w_2 (its ++ (c0 ++ readL C.E (d) 30)) (m0) HW_2.out.gs 18 (regI d 30) (regI d 30) 0 2 (by have r_1 := readL_len C.E d 30; have r_2 := readL_len C.E (d + 1) 31; have r_3 := writeL_len C.E d; have r_4 := answerL_len C.E d; have r_5 := loadL_len 31 (C.E.glob nm); (try simp only [List.length_append, List.length_cons, List.length_nil]); omega)).mono ?_
   rintro x w_3 ⟨⟨u_3, rfl⟩, hw_3⟩
   have HW_3 : Hid (Wd C W2 its (c0 ++ readL C.E (d) 30 ++ [insI 18 (regI d 30) (regI d 30) 0 2]) (m0) w_3) := HW_2.out.trans hw_3
   clear hw_3
   try clear g0
   try clear g1
   try clear g2
   try clear k0
   try clear k1
   obtain ⟨g0, g1, g2⟩ := HCl.out w_3 HW_3.out.wq
   clear g0 g1
   obtain ⟨ag, cg, hvg, -⟩ := HC.out.g
   obtain ⟨af, cf, hvf, -⟩ := HC.out.f
   have p0 : w_3.cell? ⟨C.P, 0, none⟩ = some C.vg := HW_3.out.gs.es.oth 0 (by decide) (by decide)
   have p1 : w_3.cell? ⟨C.P, 1, none⟩ = some C.vf := HW_3.out.gs.es.oth 1 (by decide) (by decide)
   rw [hvg] at p0
   rw [hvf] at p1
   have HGl : Hid (Calls Tryz.prog 84 #[.agg #[.slice ag C.gs.length cg, .slice af C.fs.length cf], .string nm] w_3.drew fun e w' => e = .returned (.int .i64 (C.E.glob nm)) ∧ Below w_3.heap.size w_3 w' ∧ w'.cell? ⟨C.P, 0, none⟩ = some (.slice ag C.gs.length cg) ∧ w'.cell? ⟨C.P, 1, none⟩ = some (.slice af C.fs.length cf) ∧ w'.cell? ⟨K0, 2, none⟩ = some (.string nm)) := by
     have hlt := HW_3.out.gs.es.lt
     have hlk := World.block_lt_of_cell? _ _ g2
     refine (globalC C HC.out w_3.drew (its ++ (c0 ++ readL C.E (d) 30 ++ [insI 18 (regI d 30) (regI d 30) 0 2])) (m0) (HW_3.out.gs.below HC.out (Below.refl _ _).drew) nm _ _ hvg hvf).mono ?_
     rintro e w' ⟨he, hb⟩
     have hb' : Below w_3.heap.size w_3 w' := (Below.refl _ _).drew.trans hb
     exact ⟨he, hb', (hb'.cell (p := ⟨C.P, 0, none⟩) hlt).trans p0, (hb'.cell (p := ⟨C.P, 1, none⟩) hlt).trans p1, (hb'.cell (p := ⟨K0, 2, none⟩) hlk).trans g2⟩
   have hgb := GC.glob_bd C HC.out nm
   have HLd : Hid (∀ W, Below w_3.heap.size w_3 W → Calls Tryz.prog 83 #[.pointer (some ⟨C.P, 0, none⟩), .int .i64 31, .int .i64 (C.E.glob nm)] W fun e w' => (∃ u, e = .returned u) ∧ Wd C w_3 (its ++ (c0 ++ readL C.E (d) 30 ++ [insI 18 (regI d 30) (regI d 30) 0 2])) (loadL 31 (C.E.glob nm)) (m0) w' ∧ w'.cell? ⟨C.P, 0, none⟩ = some (.slice ag C.gs.length cg) ∧ w'.cell? ⟨C.P, 1, none⟩ = some (.slice af C.fs.length cf) ∧ w'.cell? ⟨K0, 2, none⟩ = some (.string nm)) := fun W hW => by
     refine (loadC C HC.out W (its ++ (c0 ++ readL C.E (d) 30 ++ [insI 18 (regI d 30) (regI d 30) 0 2])) (m0) (HW_3.out.gs.below HC.out hW) 31 _ (by have r_1 := readL_len C.E d 30; have r_2 := readL_len C.E (d + 1) 31; have r_3 := writeL_len C.E d; have r_4 := answerL_len C.E d; have r_5 := loadL_len 31 (C.E.glob nm); (try simp only [List.length_append, List.length_cons, List.length_nil]); omega) (by omega)).mono ?_
     rintro e w' ⟨hu, h2⟩
     have hwd := h2.pre (Wq.below HW_3.out.gs.es.lt hW)
     have y0 : w'.cell? ⟨C.P, 0, none⟩ = some C.vg := hwd.gs.es.oth 0 (by decide) (by decide)
     have y1 : w'.cell? ⟨C.P, 1, none⟩ = some C.vf := hwd.gs.es.oth 1 (by decide) (by decide)
     rw [hvg] at y0
     rw [hvf] at y1
     exact ⟨hu, hwd, y0, y1, (HCl.out w' (Wq.trans HW_3.out.wq hwd.wq)).2.2⟩
   clear hvg hvf
   have q0 : w_3.drew.cell? ⟨C.P, 0, none⟩ = some (.slice ag C.gs.length cg) := p0
   have q1 : w_3.drew.cell? ⟨C.P, 1, none⟩ = some (.slice af C.fs.length cf) := p1
   have q2 : w_3.drew.cell? ⟨K0, 2, none⟩ = some (.string nm) := g2
   generalize hgz : C.E.glob nm = gz at HGl HLd hgb
   go_wp2_with fail
   go_region_held3 (fun W => W.cell? ⟨C.P, 0, none⟩ = some (.slice ag C.gs.length cg) ∧ W.cell? ⟨C.P, 1, none⟩ = some (.slice af C.fs.length cf) ∧ W.cell? ⟨K0, 2, none⟩ = some (.string nm)) (go_simp) (first | (with_reducible refine Calls.mono HGl.out ?_; rintro x wg ⟨rfl, hbg, z0, z1, z2⟩) | (with_reducible refine Calls.mono (HLd.out wg hbg) ?_; rintro x wl ⟨⟨ul, rfl⟩, hwl, y0, y1, y2⟩))
   rw [← hgz] at hwl
   have HW_4 : Hid (Wd C W2 its (c0 ++ readL C.E (d) 30 ++ [insI 18 (regI d 30) (regI d 30) 0 2] ++ loadL 31 (C.E.glob nm)) (m0) wl) := HW_3.out.trans hwl
   clear hwl hbg p0 p1 q0 q1 q2 y0 y1 y2 z0 z1 z2 g2 HGl HLd
   go_wp2_with fail
   refine (putC C HC.out wl (its ++ (c0 ++ readL C.E (d) 30 ++ [insI 18 (regI d 30) (regI d 30) 0 2] ++ loadL 31 (C.E.glob nm))) (m0) HW_4.out.gs 21 31 31 (regI d 30) 0 (by have r_1 := readL_len C.E d 30; have r_2 := readL_len C.E (d + 1) 31; have r_3 := writeL_len C.E d; have r_4 := answerL_len C.E d; have r_5 := loadL_len 31 (C.E.glob nm); (try simp only [List.length_append, List.length_cons, List.length_nil]); omega)).mono ?_
   rintro x w_5 ⟨⟨u_5, rfl⟩, hw_5⟩
   have HW_5 : Hid (Wd C W2 its (c0 ++ readL C.E (d) 30 ++ [insI 18 (regI d 30) (regI d 30) 0 2] ++ loadL 31 (C.E.glob nm) ++ [insI 21 31 31 (regI d 30) 0]) (m0) w_5) := HW_4.out.trans hw_5
   clear hw_5
   try clear g0
   try clear g1
   try clear g2
   try clear k0
   try clear k1
   go_wp2_with fail
   refine (putC C HC.out w_5 (its ++ (c0 ++ readL C.E (d) 30 ++ [insI 18 (regI d 30) (regI d 30) 0 2] ++ loadL 31 (C.E.glob nm) ++ [insI 21 31 31 (regI d 30) 0])) (m0) HW_5.out.gs 10 (regI d 30) 31 0 0 (by have r_1 := readL_len C.E d 30; have r_2 := readL_len C.E (d + 1) 31; have r_3 := writeL_len C.E d; have r_4 := answerL_len C.E d; have r_5 := loadL_len 31 (C.E.glob nm); (try simp only [List.length_append, List.length_cons, List.length_nil]); omega)).mono ?_
   rintro x w_6 ⟨⟨u_6, rfl⟩, hw_6⟩
   have HW_6 : Hid (Wd C W2 its (c0 ++ readL C.E (d) 30 ++ [insI 18 (regI d 30) (regI d 30) 0 2] ++ loadL 31 (C.E.glob nm) ++ [insI 21 31 31 (regI d 30) 0] ++ [insI 10 (regI d 30) 31 0 0]) (m0) w_6) := HW_5.out.trans hw_6
   clear hw_6
   try clear g0
   try clear g1
   try clear g2
   try clear k0
   try clear k1
   go_wp2_with fail
   refine (writeC C HC.out w_6 (its ++ (c0 ++ readL C.E (d) 30 ++ [insI 18 (regI d 30) (regI d 30) 0 2] ++ loadL 31 (C.E.glob nm) ++ [insI 21 31 31 (regI d 30) 0] ++ [insI 10 (regI d 30) 31 0 0])) (m0) HW_6.out.gs d (by have r_1 := readL_len C.E d 30; have r_2 := readL_len C.E (d + 1) 31; have r_3 := writeL_len C.E d; have r_4 := answerL_len C.E d; have r_5 := loadL_len 31 (C.E.glob nm); (try simp only [List.length_append, List.length_cons, List.length_nil]); omega) (by omega) (by omega)).mono ?_
   rintro x w_7 ⟨⟨u_7, rfl⟩, hw_7⟩
   have HW_7 : Hid (Wd C W2 its (c0 ++ readL C.E (d) 30 ++ [insI 18 (regI d 30) (regI d 30) 0 2] ++ loadL 31 (C.E.glob nm) ++ [insI 21 31 31 (regI d 30) 0] ++ [insI 10 (regI d 30) 31 0 0] ++ writeL C.E d) (m0) w_7) := HW_6.out.trans hw_7
   clear hw_7
   try clear g0
   try clear g1
   try clear g2
   try clear k0
   try clear k1
   go_wp2_with fail
   have HZ := HWw.out HW_7.out
   refine bodyPost_end (v := .tuple #[]) (by simp [results, Tryz.results81, go_sem]) rfl ⟨⟨_, rfl⟩, ?_⟩
   rw [HE.out]
   simp only [List.append_assoc, List.cons_append, List.nil_append] at HZ ⊢
   exact HZ
 ·as_aux_lemma =>
   have hA6 : A ≤ 6 := by have := (arity_good HGd.out).2; have := HA.out; omega
   have HE : Hid (genN C.E ⟨4, nv, nm⟩ A G d l = callC C.E nm G A d l) := by show _ = _; simp [genN]
   have HCa : Hid (Calls Tryz.prog 96 #[.pointer (some ⟨C.P, 0, none⟩), .string nm, .slice vka A vkc, .int .i64 d] W2 fun x w' => (∃ u, x = .returned u) ∧ Wd C W2 its (callC C.E nm G A d l).1 (callC C.E nm G A d l).2 w') := by
    by_cases h5 : d ≤ 5
    ·exact callS_two C HC.out nm A (kid e b) G vka vkc W2 its l d hA6 hAc hAc2 HG2.out HKc.out HX.out HBd.out hd (by omega) hl0 (by omega) (by omega) (.inl h5)
    ·exact callS_two C HC.out nm A (kid e b) G vka vkc W2 its l d hA6 hAc hAc2 HG2.out HKc.out HX.out HBd.out hd (by omega) hl0 (by omega) (by omega) (.inr (by omega))
   generalize callC C.E nm G A d l = cc at HCa HE
   obtain ⟨g0, g1, g2⟩ := HCl.out W2 (Wq.refl _ _ _)
   clear g1
   go_wp2_with fail
   refine HCa.out.mono ?_
   rintro x w_1 ⟨⟨u_1, rfl⟩, hw_1⟩
   have HW_1 : Hid (Wd C W2 its cc.1 cc.2 w_1) := hw_1
   clear hw_1 g0 g2
   go_wp2_with fail
   have HZ := HWw.out HW_1.out
   refine bodyPost_end (v := .tuple #[]) (by simp [results, Tryz.results81, go_sem]) rfl ⟨⟨_, rfl⟩, ?_⟩
   rw [HE.out]
   exact HZ
 ·as_aux_lemma =>
   have HE : Hid (genN C.E ⟨5, nv, nm⟩ A G d l = ([insI 12 17 0 0 2, insI 34 0 0 0 0] ++ answerL C.E d, l)) := by show _ = _; simp [genN]
   go_wp2_with fail
   refine (putC C HC.out W2 its (l) HG2.out 12 17 0 0 2 (by have r_1 := readL_len C.E d 30; have r_2 := readL_len C.E (d + 1) 31; have r_3 := writeL_len C.E d; have r_4 := answerL_len C.E d; (try simp only [List.length_append, List.length_cons, List.length_nil]); omega)).mono ?_
   rintro x w_1 ⟨⟨u_1, rfl⟩, hw_1⟩
   have HW_1 : Hid (Wd C W2 its ([insI 12 17 0 0 2]) (l) w_1) := hw_1
   clear hw_1
   try clear g0
   try clear g1
   try clear g2
   try clear k0
   try clear k1
   go_wp2_with fail
   refine (putC C HC.out w_1 (its ++ ([insI 12 17 0 0 2])) (l) HW_1.out.gs 34 0 0 0 0 (by have r_1 := readL_len C.E d 30; have r_2 := readL_len C.E (d + 1) 31; have r_3 := writeL_len C.E d; have r_4 := answerL_len C.E d; (try simp only [List.length_append, List.length_cons, List.length_nil]); omega)).mono ?_
   rintro x w_2 ⟨⟨u_2, rfl⟩, hw_2⟩
   have HW_2 : Hid (Wd C W2 its ([insI 12 17 0 0 2] ++ [insI 34 0 0 0 0]) (l) w_2) := HW_1.out.trans hw_2
   clear hw_2
   try clear g0
   try clear g1
   try clear g2
   try clear k0
   try clear k1
   go_wp2_with fail
   refine (answerC C HC.out w_2 (its ++ ([insI 12 17 0 0 2] ++ [insI 34 0 0 0 0])) (l) HW_2.out.gs d (by have r_1 := readL_len C.E d 30; have r_2 := readL_len C.E (d + 1) 31; have r_3 := writeL_len C.E d; have r_4 := answerL_len C.E d; (try simp only [List.length_append, List.length_cons, List.length_nil]); omega) (by omega) (by omega)).mono ?_
   rintro x w_3 ⟨⟨u_3, rfl⟩, hw_3⟩
   have HW_3 : Hid (Wd C W2 its ([insI 12 17 0 0 2] ++ [insI 34 0 0 0 0] ++ answerL C.E d) (l) w_3) := HW_2.out.trans hw_3
   clear hw_3
   try clear g0
   try clear g1
   try clear g2
   try clear k0
   try clear k1
   go_wp2_with fail
   have HZ := HWw.out HW_3.out
   refine bodyPost_end (v := .tuple #[]) (by simp [results, Tryz.results81, go_sem]) rfl ⟨⟨_, rfl⟩, ?_⟩
   rw [HE.out]
   simp only [List.append_assoc, List.cons_append, List.nil_append] at HZ ⊢
   exact HZ
 ·as_aux_lemma =>
   have hA1 : A = 1 := by have := HA.out; simp [arity] at this; omega
   subst hA1
   rw [joinF_one] at hclen
   obtain ⟨B, rfl, hkc⟩ := HKc.out (by omega)
   obtain ⟨v0, n0, hk0⟩ := hkc 0 (by omega)
   obtain ⟨q0a, q0b, q0c⟩ := HBd.out 0 (by omega) (d) (l)
   obtain ⟨c0, m0, hG0⟩ : ∃ c m, G 0 (d) (l) = (c, m) := ⟨_, _, rfl⟩
   rw [hG0] at q0a q0b q0c
   simp only at q0a q0b q0c
   have HC0 : Hid (∀ (W : World) (its' : List It), Gs C W its' (l) → its'.length + 24 * (kid e b 0).length ≤ 8000000 → Calls Tryz.prog 81 #[.pointer (some ⟨C.P, 0, none⟩), v0, .int .i64 (d)] W fun x w' => (∃ u, x = .returned u) ∧ Wd C W its' c0 m0 w') := fun W its' hg hln => by
     have := HX.out 0 (by omega) v0 W its' (l) (d) n0 hg (by omega) (by omega) (by omega) (by omega) hln
     rw [hG0] at this
     exact this
   have HE : Hid (genN C.E ⟨6, nv, nm⟩ 1 G d l = (c0 ++ readL C.E d 30 ++ unL nv (regI d 30) (regI d 30) ++ writeL C.E d, m0)) := by show _ = _; simp [genN, hG0]
   have hnv : nv = 0 ∨ nv = 1 ∨ nv = 2 := by have := HGd.out; simp [nodeB] at this; omega
   have k0 := hk0 W2 (Wq.refl _ _ _)
   go_wp2_with fail
   refine (HC0.out W2 its HG2.out (by have r_1 := readL_len C.E d 30; have r_2 := readL_len C.E (d + 1) 31; have r_3 := writeL_len C.E d; have r_4 := answerL_len C.E d; (try simp only [List.length_append, List.length_cons, List.length_nil]); omega)).mono ?_
   rintro x w_1 ⟨⟨u_1, rfl⟩, hw_1⟩
   have HW_1 : Hid (Wd C W2 its (c0) (m0) w_1) := hw_1
   clear hw_1
   try clear g0
   try clear g1
   try clear g2
   try clear k0
   try clear k1
   go_wp2_with fail
   refine (readC C HC.out w_1 (its ++ (c0)) (m0) HW_1.out.gs (d) 30 (by have r_1 := readL_len C.E d 30; have r_2 := readL_len C.E (d + 1) 31; have r_3 := writeL_len C.E d; have r_4 := answerL_len C.E d; (try simp only [List.length_append, List.length_cons, List.length_nil]); omega) (by omega) (by omega)).mono ?_
   rintro x w_2 ⟨rfl, hw_2⟩
   have HW_2 : Hid (Wd C W2 its (c0 ++ readL C.E (d) 30) (m0) w_2) := HW_1.out.trans hw_2
   clear hw_2
   try clear g0
   try clear g1
   try clear g2
   try clear k0
   try clear k1
   rcases hnv with rfl | rfl | rfl
   ·have HU : Hid (unL 0 (regI d 30) (regI d 30) = [insI 22 (regI d 30) 0 (regI d 30) 0]) := rfl
    rw [HU.out] at HE
    obtain ⟨g0, g1, g2⟩ := HCl.out w_2 HW_2.out.wq
    clear g0
    clear g2
    go_wp2_with fail
    refine (putC C HC.out w_2 (its ++ (c0 ++ readL C.E (d) 30)) (m0) HW_2.out.gs 22 (regI d 30) 0 (regI d 30) 0 (by have r_1 := readL_len C.E d 30; have r_2 := readL_len C.E (d + 1) 31; have r_3 := writeL_len C.E d; have r_4 := answerL_len C.E d; (try simp only [List.length_append, List.length_cons, List.length_nil]); omega)).mono ?_
    rintro x w_3 ⟨⟨u_3, rfl⟩, hw_3⟩
    have HW_3 : Hid (Wd C W2 its (c0 ++ readL C.E (d) 30 ++ [insI 22 (regI d 30) 0 (regI d 30) 0]) (m0) w_3) := HW_2.out.trans hw_3
    clear hw_3
    try clear g0
    try clear g1
    try clear g2
    try clear k0
    try clear k1
    go_wp2_with fail
    refine (writeC C HC.out w_3 (its ++ (c0 ++ readL C.E (d) 30 ++ [insI 22 (regI d 30) 0 (regI d 30) 0])) (m0) HW_3.out.gs d (by have r_1 := readL_len C.E d 30; have r_2 := readL_len C.E (d + 1) 31; have r_3 := writeL_len C.E d; have r_4 := answerL_len C.E d; (try simp only [List.length_append, List.length_cons, List.length_nil]); omega) (by omega) (by omega)).mono ?_
    rintro x w_4 ⟨⟨u_4, rfl⟩, hw_4⟩
    have HW_4 : Hid (Wd C W2 its (c0 ++ readL C.E (d) 30 ++ [insI 22 (regI d 30) 0 (regI d 30) 0] ++ writeL C.E d) (m0) w_4) := HW_3.out.trans hw_4
    clear hw_4
    try clear g0
    try clear g1
    try clear g2
    try clear k0
    try clear k1
    go_wp2_with fail
    have HZ := HWw.out HW_4.out
    refine bodyPost_end (v := .tuple #[]) (by simp [results, Tryz.results81, go_sem]) rfl ⟨⟨_, rfl⟩, ?_⟩
    rw [HE.out]
    simp only [List.append_assoc, List.cons_append, List.nil_append] at HZ ⊢
    exact HZ
   ·have HU : Hid (unL 1 (regI d 30) (regI d 30) = [insI 14 (regI d 30) (regI d 30) 0 1]) := rfl
    rw [HU.out] at HE
    obtain ⟨g0, g1, g2⟩ := HCl.out w_2 HW_2.out.wq
    clear g0
    clear g2
    go_wp2_with fail
    refine (putC C HC.out w_2 (its ++ (c0 ++ readL C.E (d) 30)) (m0) HW_2.out.gs 14 (regI d 30) (regI d 30) 0 1 (by have r_1 := readL_len C.E d 30; have r_2 := readL_len C.E (d + 1) 31; have r_3 := writeL_len C.E d; have r_4 := answerL_len C.E d; (try simp only [List.length_append, List.length_cons, List.length_nil]); omega)).mono ?_
    rintro x w_3 ⟨⟨u_3, rfl⟩, hw_3⟩
    have HW_3 : Hid (Wd C W2 its (c0 ++ readL C.E (d) 30 ++ [insI 14 (regI d 30) (regI d 30) 0 1]) (m0) w_3) := HW_2.out.trans hw_3
    clear hw_3
    try clear g0
    try clear g1
    try clear g2
    try clear k0
    try clear k1
    go_wp2_with fail
    refine (writeC C HC.out w_3 (its ++ (c0 ++ readL C.E (d) 30 ++ [insI 14 (regI d 30) (regI d 30) 0 1])) (m0) HW_3.out.gs d (by have r_1 := readL_len C.E d 30; have r_2 := readL_len C.E (d + 1) 31; have r_3 := writeL_len C.E d; have r_4 := answerL_len C.E d; (try simp only [List.length_append, List.length_cons, List.length_nil]); omega) (by omega) (by omega)).mono ?_
    rintro x w_4 ⟨⟨u_4, rfl⟩, hw_4⟩
    have HW_4 : Hid (Wd C W2 its (c0 ++ readL C.E (d) 30 ++ [insI 14 (regI d 30) (regI d 30) 0 1] ++ writeL C.E d) (m0) w_4) := HW_3.out.trans hw_4
    clear hw_4
    try clear g0
    try clear g1
    try clear g2
    try clear k0
    try clear k1
    go_wp2_with fail
    have HZ := HWw.out HW_4.out
    refine bodyPost_end (v := .tuple #[]) (by simp [results, Tryz.results81, go_sem]) rfl ⟨⟨_, rfl⟩, ?_⟩
    rw [HE.out]
    simp only [List.append_assoc, List.cons_append, List.nil_append] at HZ ⊢
    exact HZ
   ·have HU : Hid (unL 2 (regI d 30) (regI d 30) = [insI 15 (regI d 30) (regI d 30) 0 (-1)]) := rfl
    rw [HU.out] at HE
    obtain ⟨g0, g1, g2⟩ := HCl.out w_2 HW_2.out.wq
    clear g0
    clear g2
    go_wp2_with fail
    refine (putC C HC.out w_2 (its ++ (c0 ++ readL C.E (d) 30)) (m0) HW_2.out.gs 15 (regI d 30) (regI d 30) 0 (-1) (by have r_1 := readL_len C.E d 30; have r_2 := readL_len C.E (d + 1) 31; have r_3 := writeL_len C.E d; have r_4 := answerL_len C.E d; (try simp only [List.length_append, List.length_cons, List.length_nil]); omega)).mono ?_
    rintro x w_3 ⟨⟨u_3, rfl⟩, hw_3⟩
    have HW_3 : Hid (Wd C W2 its (c0 ++ readL C.E (d) 30 ++ [insI 15 (regI d 30) (regI d 30) 0 (-1)]) (m0) w_3) := HW_2.out.trans hw_3
    clear hw_3
    try clear g0
    try clear g1
    try clear g2
    try clear k0
    try clear k1
    go_wp2_with fail
    refine (writeC C HC.out w_3 (its ++ (c0 ++ readL C.E (d) 30 ++ [insI 15 (regI d 30) (regI d 30) 0 (-1)])) (m0) HW_3.out.gs d (by have r_1 := readL_len C.E d 30; have r_2 := readL_len C.E (d + 1) 31; have r_3 := writeL_len C.E d; have r_4 := answerL_len C.E d; (try simp only [List.length_append, List.length_cons, List.length_nil]); omega) (by omega) (by omega)).mono ?_
    rintro x w_4 ⟨⟨u_4, rfl⟩, hw_4⟩
    have HW_4 : Hid (Wd C W2 its (c0 ++ readL C.E (d) 30 ++ [insI 15 (regI d 30) (regI d 30) 0 (-1)] ++ writeL C.E d) (m0) w_4) := HW_3.out.trans hw_4
    clear hw_4
    try clear g0
    try clear g1
    try clear g2
    try clear k0
    try clear k1
    go_wp2_with fail
    have HZ := HWw.out HW_4.out
    refine bodyPost_end (v := .tuple #[]) (by simp [results, Tryz.results81, go_sem]) rfl ⟨⟨_, rfl⟩, ?_⟩
    rw [HE.out]
    simp only [List.append_assoc, List.cons_append, List.nil_append] at HZ ⊢
    exact HZ
 ·as_aux_lemma =>
   have hA2 : A = 2 := by have := HA.out; simp [arity] at this; omega
   subst hA2
   rw [joinF_two] at hclen
   obtain ⟨B, rfl, hkc⟩ := HKc.out (by omega)
   obtain ⟨v0, n0, hk0⟩ := hkc 0 (by omega)
   obtain ⟨v1, n1, hk1⟩ := hkc 1 (by omega)
   obtain ⟨q0a, q0b, q0c⟩ := HBd.out 0 (by omega) (d) (l)
   obtain ⟨c0, m0, hG0⟩ : ∃ c m, G 0 (d) (l) = (c, m) := ⟨_, _, rfl⟩
   rw [hG0] at q0a q0b q0c
   simp only at q0a q0b q0c
   have HC0 : Hid (∀ (W : World) (its' : List It), Gs C W its' (l) → its'.length + 24 * (kid e b 0).length ≤ 8000000 → Calls Tryz.prog 81 #[.pointer (some ⟨C.P, 0, none⟩), v0, .int .i64 (d)] W fun x w' => (∃ u, x = .returned u) ∧ Wd C W its' c0 m0 w') := fun W its' hg hln => by
     have := HX.out 0 (by omega) v0 W its' (l) (d) n0 hg (by omega) (by omega) (by omega) (by omega) hln
     rw [hG0] at this
     exact this
   obtain ⟨q1a, q1b, q1c⟩ := HBd.out 1 (by omega) (d + 1) (m0)
   obtain ⟨c1, m1, hG1⟩ : ∃ c m, G 1 (d + 1) (m0) = (c, m) := ⟨_, _, rfl⟩
   rw [hG1] at q1a q1b q1c
   simp only at q1a q1b q1c
   have HC1 : Hid (∀ (W : World) (its' : List It), Gs C W its' (m0) → its'.length + 24 * (kid e b 1).length ≤ 8000000 → Calls Tryz.prog 81 #[.pointer (some ⟨C.P, 0, none⟩), v1, .int .i64 (d + 1)] W fun x w' => (∃ u, x = .returned u) ∧ Wd C W its' c1 m1 w') := fun W its' hg hln => by
     have := HX.out 1 (by omega) v1 W its' (m0) (d + 1) n1 hg (by omega) (by omega) (by omega) (by omega) hln
     rw [hG1] at this
     exact this
   have HE : Hid (genN C.E ⟨7, nv, nm⟩ 2 G d l = (c0 ++ c1 ++ readL C.E d 30 ++ readL C.E (d + 1) 31 ++ binL nv (regI d 30) (regI d 30) (regI (d + 1) 31) ++ writeL C.E d, m1)) := by show _ = _; simp [genN, hG0, hG1]
   have hnv : 0 ≤ nv ∧ nv ≤ 15 := by have := HGd.out; simp [nodeB] at this; omega
   have hwd : IntKind.i64.wrap (d + 1) = d + 1 := by simp [IntKind.wrap, IntKind.bits, IntKind.signed]; omega
   have k0 := hk0 W2 (Wq.refl _ _ _)
   go_wp2_with fail
   refine (HC0.out W2 its HG2.out (by have r_1 := readL_len C.E d 30; have r_2 := readL_len C.E (d + 1) 31; have r_3 := writeL_len C.E d; have r_4 := answerL_len C.E d; have r_5 := binL_len nv (regI d 30) (regI d 30) (regI (d + 1) 31); (try simp only [List.length_append, List.length_cons, List.length_nil]); omega)).mono ?_
   rintro x w_1 ⟨⟨u_1, rfl⟩, hw_1⟩
   have HW_1 : Hid (Wd C W2 its (c0) (m0) w_1) := hw_1
   clear hw_1
   try clear g0
   try clear g1
   try clear g2
   try clear k0
   try clear k1
   have k1 := hk1 w_1 HW_1.out.wq
   go_wp2_with fail
   refine (HC1.out w_1 (its ++ (c0)) HW_1.out.gs (by have r_1 := readL_len C.E d 30; have r_2 := readL_len C.E (d + 1) 31; have r_3 := writeL_len C.E d; have r_4 := answerL_len C.E d; have r_5 := binL_len nv (regI d 30) (regI d 30) (regI (d + 1) 31); (try simp only [List.length_append, List.length_cons, List.length_nil]); omega)).mono ?_
   rintro x w_2 ⟨⟨u_2, rfl⟩, hw_2⟩
   have HW_2 : Hid (Wd C W2 its (c0 ++ c1) (m1) w_2) := HW_1.out.trans hw_2
   clear hw_2
   try clear g0
   try clear g1
   try clear g2
   try clear k0
   try clear k1
   go_wp2_with fail
   refine (readC C HC.out w_2 (its ++ (c0 ++ c1)) (m1) HW_2.out.gs (d) 30 (by have r_1 := readL_len C.E d 30; have r_2 := readL_len C.E (d + 1) 31; have r_3 := writeL_len C.E d; have r_4 := answerL_len C.E d; have r_5 := binL_len nv (regI d 30) (regI d 30) (regI (d + 1) 31); (try simp only [List.length_append, List.length_cons, List.length_nil]); omega) (by omega) (by omega)).mono ?_
   rintro x w_3 ⟨rfl, hw_3⟩
   have HW_3 : Hid (Wd C W2 its (c0 ++ c1 ++ readL C.E (d) 30) (m1) w_3) := HW_2.out.trans hw_3
   clear hw_3
   try clear g0
   try clear g1
   try clear g2
   try clear k0
   try clear k1
   go_wp2_with fail
   refine (readC C HC.out w_3 (its ++ (c0 ++ c1 ++ readL C.E (d) 30)) (m1) HW_3.out.gs (d + 1) 31 (by have r_1 := readL_len C.E d 30; have r_2 := readL_len C.E (d + 1) 31; have r_3 := writeL_len C.E d; have r_4 := answerL_len C.E d; have r_5 := binL_len nv (regI d 30) (regI d 30) (regI (d + 1) 31); (try simp only [List.length_append, List.length_cons, List.length_nil]); omega) (by omega) (by omega)).mono ?_
   rintro x w_4 ⟨rfl, hw_4⟩
   have HW_4 : Hid (Wd C W2 its (c0 ++ c1 ++ readL C.E (d) 30 ++ readL C.E (d + 1) 31) (m1) w_4) := HW_3.out.trans hw_4
   clear hw_4
   try clear g0
   try clear g1
   try clear g2
   try clear k0
   try clear k1
   obtain ⟨g0, g1, g2⟩ := HCl.out w_4 HW_4.out.wq
   clear g0
   clear g2
   go_wp2_with fail
   refine (binC C HC.out w_4 (its ++ (c0 ++ c1 ++ readL C.E (d) 30 ++ readL C.E (d + 1) 31)) (m1) HW_4.out.gs nv (regI d 30) (regI d 30) (regI (d + 1) 31) (by have r_1 := readL_len C.E d 30; have r_2 := readL_len C.E (d + 1) 31; have r_3 := writeL_len C.E d; have r_4 := answerL_len C.E d; have r_5 := binL_len nv (regI d 30) (regI d 30) (regI (d + 1) 31); (try simp only [List.length_append, List.length_cons, List.length_nil]); omega) hnv.1 hnv.2).mono ?_
   rintro x w_5 ⟨⟨u_5, rfl⟩, hw_5⟩
   have HW_5 : Hid (Wd C W2 its (c0 ++ c1 ++ readL C.E (d) 30 ++ readL C.E (d + 1) 31 ++ binL nv (regI d 30) (regI d 30) (regI (d + 1) 31)) (m1) w_5) := HW_4.out.trans hw_5
   clear hw_5
   try clear g0
   try clear g1
   try clear g2
   try clear k0
   try clear k1
   go_wp2_with fail
   refine (writeC C HC.out w_5 (its ++ (c0 ++ c1 ++ readL C.E (d) 30 ++ readL C.E (d + 1) 31 ++ binL nv (regI d 30) (regI d 30) (regI (d + 1) 31))) (m1) HW_5.out.gs d (by have r_1 := readL_len C.E d 30; have r_2 := readL_len C.E (d + 1) 31; have r_3 := writeL_len C.E d; have r_4 := answerL_len C.E d; have r_5 := binL_len nv (regI d 30) (regI d 30) (regI (d + 1) 31); (try simp only [List.length_append, List.length_cons, List.length_nil]); omega) (by omega) (by omega)).mono ?_
   rintro x w_6 ⟨⟨u_6, rfl⟩, hw_6⟩
   have HW_6 : Hid (Wd C W2 its (c0 ++ c1 ++ readL C.E (d) 30 ++ readL C.E (d + 1) 31 ++ binL nv (regI d 30) (regI d 30) (regI (d + 1) 31) ++ writeL C.E d) (m1) w_6) := HW_5.out.trans hw_6
   clear hw_6
   try clear g0
   try clear g1
   try clear g2
   try clear k0
   try clear k1
   go_wp2_with fail
   have HZ := HWw.out HW_6.out
   refine bodyPost_end (v := .tuple #[]) (by simp [results, Tryz.results81, go_sem]) rfl ⟨⟨_, rfl⟩, ?_⟩
   rw [HE.out]
   simp only [List.append_assoc, List.cons_append, List.nil_append] at HZ ⊢
   exact HZ
 ·as_aux_lemma =>
   have hA2 : A = 2 := by have := HA.out; simp [arity] at this; omega
   subst hA2
   rw [joinF_two] at hclen
   obtain ⟨B, rfl, hkc⟩ := HKc.out (by omega)
   obtain ⟨v0, n0, hk0⟩ := hkc 0 (by omega)
   obtain ⟨v1, n1, hk1⟩ := hkc 1 (by omega)
   obtain ⟨q0a, q0b, q0c⟩ := HBd.out 0 (by omega) (d) (l + 1)
   obtain ⟨c0, m0, hG0⟩ : ∃ c m, G 0 (d) (l + 1) = (c, m) := ⟨_, _, rfl⟩
   rw [hG0] at q0a q0b q0c
   simp only at q0a q0b q0c
   have HC0 : Hid (∀ (W : World) (its' : List It), Gs C W its' (l + 1) → its'.length + 24 * (kid e b 0).length ≤ 8000000 → Calls Tryz.prog 81 #[.pointer (some ⟨C.P, 0, none⟩), v0, .int .i64 (d)] W fun x w' => (∃ u, x = .returned u) ∧ Wd C W its' c0 m0 w') := fun W its' hg hln => by
     have := HX.out 0 (by omega) v0 W its' (l + 1) (d) n0 hg (by omega) (by omega) (by omega) (by omega) hln
     rw [hG0] at this
     exact this
   obtain ⟨q1a, q1b, q1c⟩ := HBd.out 1 (by omega) (d) (m0)
   obtain ⟨c1, m1, hG1⟩ : ∃ c m, G 1 (d) (m0) = (c, m) := ⟨_, _, rfl⟩
   rw [hG1] at q1a q1b q1c
   simp only at q1a q1b q1c
   have HC1 : Hid (∀ (W : World) (its' : List It), Gs C W its' (m0) → its'.length + 24 * (kid e b 1).length ≤ 8000000 → Calls Tryz.prog 81 #[.pointer (some ⟨C.P, 0, none⟩), v1, .int .i64 (d)] W fun x w' => (∃ u, x = .returned u) ∧ Wd C W its' c1 m1 w') := fun W its' hg hln => by
     have := HX.out 1 (by omega) v1 W its' (m0) (d) n1 hg (by omega) (by omega) (by omega) (by omega) hln
     rw [hG1] at this
     exact this
   have HE : Hid (genN C.E ⟨8, nv, nm⟩ 2 G d l = (c0 ++ readL C.E d 30 ++ [branI 4 (regI d 30) l] ++ c1 ++ [markI 2 l] ++ readL C.E d 30 ++ [insI 25 (regI d 30) 0 (regI d 30) 0] ++ writeL C.E d, m1)) := by show _ = _; simp [genN, choiceC, hG0, hG1]
   go_wp2_with fail
   refine (labC C HC.out W2 its (l) HG2.out (by omega)).mono ?_
   rintro x w_1 ⟨rfl, hw_1⟩
   have HW_1 : Hid (Wd C W2 its ([]) (l + 1) w_1) := hw_1
   clear hw_1
   try clear g0
   try clear g1
   try clear g2
   try clear k0
   try clear k1
   have k0 := hk0 w_1 HW_1.out.wq
   go_wp2_with fail
   refine (HC0.out w_1 (its ++ ([])) HW_1.out.gs (by have r_1 := readL_len C.E d 30; have r_2 := readL_len C.E (d + 1) 31; have r_3 := writeL_len C.E d; have r_4 := answerL_len C.E d; (try simp only [List.length_append, List.length_cons, List.length_nil]); omega)).mono ?_
   rintro x w_2 ⟨⟨u_2, rfl⟩, hw_2⟩
   have HW_2 : Hid (Wd C W2 its ([] ++ c0) (m0) w_2) := HW_1.out.trans hw_2
   clear hw_2
   try clear g0
   try clear g1
   try clear g2
   try clear k0
   try clear k1
   go_wp2_with fail
   refine (readC C HC.out w_2 (its ++ ([] ++ c0)) (m0) HW_2.out.gs (d) 30 (by have r_1 := readL_len C.E d 30; have r_2 := readL_len C.E (d + 1) 31; have r_3 := writeL_len C.E d; have r_4 := answerL_len C.E d; (try simp only [List.length_append, List.length_cons, List.length_nil]); omega) (by omega) (by omega)).mono ?_
   rintro x w_3 ⟨rfl, hw_3⟩
   have HW_3 : Hid (Wd C W2 its ([] ++ c0 ++ readL C.E (d) 30) (m0) w_3) := HW_2.out.trans hw_3
   clear hw_3
   try clear g0
   try clear g1
   try clear g2
   try clear k0
   try clear k1
   obtain ⟨g0, g1, g2⟩ := HCl.out w_3 HW_3.out.wq
   clear g1
   clear g2
   go_wp2_with fail
   refine (branC C HC.out w_3 (its ++ ([] ++ c0 ++ readL C.E (d) 30)) (m0) HW_3.out.gs 4 (regI d 30) l (by have r_1 := readL_len C.E d 30; have r_2 := readL_len C.E (d + 1) 31; have r_3 := writeL_len C.E d; have r_4 := answerL_len C.E d; (try simp only [List.length_append, List.length_cons, List.length_nil]); omega)).mono ?_
   rintro x w_4 ⟨⟨u_4, rfl⟩, hw_4⟩
   have HW_4 : Hid (Wd C W2 its ([] ++ c0 ++ readL C.E (d) 30 ++ [branI 4 (regI d 30) l]) (m0) w_4) := HW_3.out.trans hw_4
   clear hw_4
   try clear g0
   try clear g1
   try clear g2
   try clear k0
   try clear k1
   have k1 := hk1 w_4 HW_4.out.wq
   go_wp2_with fail
   refine (HC1.out w_4 (its ++ ([] ++ c0 ++ readL C.E (d) 30 ++ [branI 4 (regI d 30) l])) HW_4.out.gs (by have r_1 := readL_len C.E d 30; have r_2 := readL_len C.E (d + 1) 31; have r_3 := writeL_len C.E d; have r_4 := answerL_len C.E d; (try simp only [List.length_append, List.length_cons, List.length_nil]); omega)).mono ?_
   rintro x w_5 ⟨⟨u_5, rfl⟩, hw_5⟩
   have HW_5 : Hid (Wd C W2 its ([] ++ c0 ++ readL C.E (d) 30 ++ [branI 4 (regI d 30) l] ++ c1) (m1) w_5) := HW_4.out.trans hw_5
   clear hw_5
   try clear g0
   try clear g1
   try clear g2
   try clear k0
   try clear k1
   go_wp2_with fail
   refine (markC C HC.out w_5 (its ++ ([] ++ c0 ++ readL C.E (d) 30 ++ [branI 4 (regI d 30) l] ++ c1)) (m1) HW_5.out.gs 2 l (by have r_1 := readL_len C.E d 30; have r_2 := readL_len C.E (d + 1) 31; have r_3 := writeL_len C.E d; have r_4 := answerL_len C.E d; (try simp only [List.length_append, List.length_cons, List.length_nil]); omega)).mono ?_
   rintro x w_6 ⟨⟨u_6, rfl⟩, hw_6⟩
   have HW_6 : Hid (Wd C W2 its ([] ++ c0 ++ readL C.E (d) 30 ++ [branI 4 (regI d 30) l] ++ c1 ++ [markI 2 l]) (m1) w_6) := HW_5.out.trans hw_6
   clear hw_6
   try clear g0
   try clear g1
   try clear g2
   try clear k0
   try clear k1
   go_wp2_with fail
   refine (readC C HC.out w_6 (its ++ ([] ++ c0 ++ readL C.E (d) 30 ++ [branI 4 (regI d 30) l] ++ c1 ++ [markI 2 l])) (m1) HW_6.out.gs (d) 30 (by have r_1 := readL_len C.E d 30; have r_2 := readL_len C.E (d + 1) 31; have r_3 := writeL_len C.E d; have r_4 := answerL_len C.E d; (try simp only [List.length_append, List.length_cons, List.length_nil]); omega) (by omega) (by omega)).mono ?_
   rintro x w_7 ⟨rfl, hw_7⟩
   have HW_7 : Hid (Wd C W2 its ([] ++ c0 ++ readL C.E (d) 30 ++ [branI 4 (regI d 30) l] ++ c1 ++ [markI 2 l] ++ readL C.E (d) 30) (m1) w_7) := HW_6.out.trans hw_7
   clear hw_7
   try clear g0
   try clear g1
   try clear g2
   try clear k0
   try clear k1
   go_wp2_with fail
   refine (putC C HC.out w_7 (its ++ ([] ++ c0 ++ readL C.E (d) 30 ++ [branI 4 (regI d 30) l] ++ c1 ++ [markI 2 l] ++ readL C.E (d) 30)) (m1) HW_7.out.gs 25 (regI d 30) 0 (regI d 30) 0 (by have r_1 := readL_len C.E d 30; have r_2 := readL_len C.E (d + 1) 31; have r_3 := writeL_len C.E d; have r_4 := answerL_len C.E d; (try simp only [List.length_append, List.length_cons, List.length_nil]); omega)).mono ?_
   rintro x w_8 ⟨⟨u_8, rfl⟩, hw_8⟩
   have HW_8 : Hid (Wd C W2 its ([] ++ c0 ++ readL C.E (d) 30 ++ [branI 4 (regI d 30) l] ++ c1 ++ [markI 2 l] ++ readL C.E (d) 30 ++ [insI 25 (regI d 30) 0 (regI d 30) 0]) (m1) w_8) := HW_7.out.trans hw_8
   clear hw_8
   try clear g0
   try clear g1
   try clear g2
   try clear k0
   try clear k1
   go_wp2_with fail
   refine (writeC C HC.out w_8 (its ++ ([] ++ c0 ++ readL C.E (d) 30 ++ [branI 4 (regI d 30) l] ++ c1 ++ [markI 2 l] ++ readL C.E (d) 30 ++ [insI 25 (regI d 30) 0 (regI d 30) 0])) (m1) HW_8.out.gs d (by have r_1 := readL_len C.E d 30; have r_2 := readL_len C.E (d + 1) 31; have r_3 := writeL_len C.E d; have r_4 := answerL_len C.E d; (try simp only [List.length_append, List.length_cons, List.length_nil]); omega) (by omega) (by omega)).mono ?_
   rintro x w_9 ⟨⟨u_9, rfl⟩, hw_9⟩
   have HW_9 : Hid (Wd C W2 its ([] ++ c0 ++ readL C.E (d) 30 ++ [branI 4 (regI d 30) l] ++ c1 ++ [markI 2 l] ++ readL C.E (d) 30 ++ [insI 25 (regI d 30) 0 (regI d 30) 0] ++ writeL C.E d) (m1) w_9) := HW_8.out.trans hw_9
   clear hw_9
   try clear g0
   try clear g1
   try clear g2
   try clear k0
   try clear k1
   go_wp2_with fail
   have HZ := HWw.out HW_9.out
   refine bodyPost_end (v := .tuple #[]) (by simp [results, Tryz.results81, go_sem]) rfl ⟨⟨_, rfl⟩, ?_⟩
   rw [HE.out]
   simp only [List.append_assoc, List.cons_append, List.nil_append] at HZ ⊢
   exact HZ
 ·as_aux_lemma =>
   have hA2 : A = 2 := by have := HA.out; simp [arity] at this; omega
   subst hA2
   rw [joinF_two] at hclen
   obtain ⟨B, rfl, hkc⟩ := HKc.out (by omega)
   obtain ⟨v0, n0, hk0⟩ := hkc 0 (by omega)
   obtain ⟨v1, n1, hk1⟩ := hkc 1 (by omega)
   obtain ⟨q0a, q0b, q0c⟩ := HBd.out 0 (by omega) (d) (l + 1)
   obtain ⟨c0, m0, hG0⟩ : ∃ c m, G 0 (d) (l + 1) = (c, m) := ⟨_, _, rfl⟩
   rw [hG0] at q0a q0b q0c
   simp only at q0a q0b q0c
   have HC0 : Hid (∀ (W : World) (its' : List It), Gs C W its' (l + 1) → its'.length + 24 * (kid e b 0).length ≤ 8000000 → Calls Tryz.prog 81 #[.pointer (some ⟨C.P, 0, none⟩), v0, .int .i64 (d)] W fun x w' => (∃ u, x = .returned u) ∧ Wd C W its' c0 m0 w') := fun W its' hg hln => by
     have := HX.out 0 (by omega) v0 W its' (l + 1) (d) n0 hg (by omega) (by omega) (by omega) (by omega) hln
     rw [hG0] at this
     exact this
   obtain ⟨q1a, q1b, q1c⟩ := HBd.out 1 (by omega) (d) (m0)
   obtain ⟨c1, m1, hG1⟩ : ∃ c m, G 1 (d) (m0) = (c, m) := ⟨_, _, rfl⟩
   rw [hG1] at q1a q1b q1c
   simp only at q1a q1b q1c
   have HC1 : Hid (∀ (W : World) (its' : List It), Gs C W its' (m0) → its'.length + 24 * (kid e b 1).length ≤ 8000000 → Calls Tryz.prog 81 #[.pointer (some ⟨C.P, 0, none⟩), v1, .int .i64 (d)] W fun x w' => (∃ u, x = .returned u) ∧ Wd C W its' c1 m1 w') := fun W its' hg hln => by
     have := HX.out 1 (by omega) v1 W its' (m0) (d) n1 hg (by omega) (by omega) (by omega) (by omega) hln
     rw [hG1] at this
     exact this
   have HE : Hid (genN C.E ⟨9, nv, nm⟩ 2 G d l = (c0 ++ readL C.E d 30 ++ [branI 5 (regI d 30) l] ++ c1 ++ [markI 2 l] ++ readL C.E d 30 ++ [insI 25 (regI d 30) 0 (regI d 30) 0] ++ writeL C.E d, m1)) := by show _ = _; simp [genN, choiceC, hG0, hG1]
   go_wp2_with fail
   refine (labC C HC.out W2 its (l) HG2.out (by omega)).mono ?_
   rintro x w_1 ⟨rfl, hw_1⟩
   have HW_1 : Hid (Wd C W2 its ([]) (l + 1) w_1) := hw_1
   clear hw_1
   try clear g0
   try clear g1
   try clear g2
   try clear k0
   try clear k1
   have k0 := hk0 w_1 HW_1.out.wq
   go_wp2_with fail
   refine (HC0.out w_1 (its ++ ([])) HW_1.out.gs (by have r_1 := readL_len C.E d 30; have r_2 := readL_len C.E (d + 1) 31; have r_3 := writeL_len C.E d; have r_4 := answerL_len C.E d; (try simp only [List.length_append, List.length_cons, List.length_nil]); omega)).mono ?_
   rintro x w_2 ⟨⟨u_2, rfl⟩, hw_2⟩
   have HW_2 : Hid (Wd C W2 its ([] ++ c0) (m0) w_2) := HW_1.out.trans hw_2
   clear hw_2
   try clear g0
   try clear g1
   try clear g2
   try clear k0
   try clear k1
   go_wp2_with fail
   refine (readC C HC.out w_2 (its ++ ([] ++ c0)) (m0) HW_2.out.gs (d) 30 (by have r_1 := readL_len C.E d 30; have r_2 := readL_len C.E (d + 1) 31; have r_3 := writeL_len C.E d; have r_4 := answerL_len C.E d; (try simp only [List.length_append, List.length_cons, List.length_nil]); omega) (by omega) (by omega)).mono ?_
   rintro x w_3 ⟨rfl, hw_3⟩
   have HW_3 : Hid (Wd C W2 its ([] ++ c0 ++ readL C.E (d) 30) (m0) w_3) := HW_2.out.trans hw_3
   clear hw_3
   try clear g0
   try clear g1
   try clear g2
   try clear k0
   try clear k1
   obtain ⟨g0, g1, g2⟩ := HCl.out w_3 HW_3.out.wq
   clear g1
   clear g2
   go_wp2_with fail
   refine (branC C HC.out w_3 (its ++ ([] ++ c0 ++ readL C.E (d) 30)) (m0) HW_3.out.gs 5 (regI d 30) l (by have r_1 := readL_len C.E d 30; have r_2 := readL_len C.E (d + 1) 31; have r_3 := writeL_len C.E d; have r_4 := answerL_len C.E d; (try simp only [List.length_append, List.length_cons, List.length_nil]); omega)).mono ?_
   rintro x w_4 ⟨⟨u_4, rfl⟩, hw_4⟩
   have HW_4 : Hid (Wd C W2 its ([] ++ c0 ++ readL C.E (d) 30 ++ [branI 5 (regI d 30) l]) (m0) w_4) := HW_3.out.trans hw_4
   clear hw_4
   try clear g0
   try clear g1
   try clear g2
   try clear k0
   try clear k1
   have k1 := hk1 w_4 HW_4.out.wq
   go_wp2_with fail
   refine (HC1.out w_4 (its ++ ([] ++ c0 ++ readL C.E (d) 30 ++ [branI 5 (regI d 30) l])) HW_4.out.gs (by have r_1 := readL_len C.E d 30; have r_2 := readL_len C.E (d + 1) 31; have r_3 := writeL_len C.E d; have r_4 := answerL_len C.E d; (try simp only [List.length_append, List.length_cons, List.length_nil]); omega)).mono ?_
   rintro x w_5 ⟨⟨u_5, rfl⟩, hw_5⟩
   have HW_5 : Hid (Wd C W2 its ([] ++ c0 ++ readL C.E (d) 30 ++ [branI 5 (regI d 30) l] ++ c1) (m1) w_5) := HW_4.out.trans hw_5
   clear hw_5
   try clear g0
   try clear g1
   try clear g2
   try clear k0
   try clear k1
   go_wp2_with fail
   refine (markC C HC.out w_5 (its ++ ([] ++ c0 ++ readL C.E (d) 30 ++ [branI 5 (regI d 30) l] ++ c1)) (m1) HW_5.out.gs 2 l (by have r_1 := readL_len C.E d 30; have r_2 := readL_len C.E (d + 1) 31; have r_3 := writeL_len C.E d; have r_4 := answerL_len C.E d; (try simp only [List.length_append, List.length_cons, List.length_nil]); omega)).mono ?_
   rintro x w_6 ⟨⟨u_6, rfl⟩, hw_6⟩
   have HW_6 : Hid (Wd C W2 its ([] ++ c0 ++ readL C.E (d) 30 ++ [branI 5 (regI d 30) l] ++ c1 ++ [markI 2 l]) (m1) w_6) := HW_5.out.trans hw_6
   clear hw_6
   try clear g0
   try clear g1
   try clear g2
   try clear k0
   try clear k1
   go_wp2_with fail
   refine (readC C HC.out w_6 (its ++ ([] ++ c0 ++ readL C.E (d) 30 ++ [branI 5 (regI d 30) l] ++ c1 ++ [markI 2 l])) (m1) HW_6.out.gs (d) 30 (by have r_1 := readL_len C.E d 30; have r_2 := readL_len C.E (d + 1) 31; have r_3 := writeL_len C.E d; have r_4 := answerL_len C.E d; (try simp only [List.length_append, List.length_cons, List.length_nil]); omega) (by omega) (by omega)).mono ?_
   rintro x w_7 ⟨rfl, hw_7⟩
   have HW_7 : Hid (Wd C W2 its ([] ++ c0 ++ readL C.E (d) 30 ++ [branI 5 (regI d 30) l] ++ c1 ++ [markI 2 l] ++ readL C.E (d) 30) (m1) w_7) := HW_6.out.trans hw_7
   clear hw_7
   try clear g0
   try clear g1
   try clear g2
   try clear k0
   try clear k1
   go_wp2_with fail
   refine (putC C HC.out w_7 (its ++ ([] ++ c0 ++ readL C.E (d) 30 ++ [branI 5 (regI d 30) l] ++ c1 ++ [markI 2 l] ++ readL C.E (d) 30)) (m1) HW_7.out.gs 25 (regI d 30) 0 (regI d 30) 0 (by have r_1 := readL_len C.E d 30; have r_2 := readL_len C.E (d + 1) 31; have r_3 := writeL_len C.E d; have r_4 := answerL_len C.E d; (try simp only [List.length_append, List.length_cons, List.length_nil]); omega)).mono ?_
   rintro x w_8 ⟨⟨u_8, rfl⟩, hw_8⟩
   have HW_8 : Hid (Wd C W2 its ([] ++ c0 ++ readL C.E (d) 30 ++ [branI 5 (regI d 30) l] ++ c1 ++ [markI 2 l] ++ readL C.E (d) 30 ++ [insI 25 (regI d 30) 0 (regI d 30) 0]) (m1) w_8) := HW_7.out.trans hw_8
   clear hw_8
   try clear g0
   try clear g1
   try clear g2
   try clear k0
   try clear k1
   go_wp2_with fail
   refine (writeC C HC.out w_8 (its ++ ([] ++ c0 ++ readL C.E (d) 30 ++ [branI 5 (regI d 30) l] ++ c1 ++ [markI 2 l] ++ readL C.E (d) 30 ++ [insI 25 (regI d 30) 0 (regI d 30) 0])) (m1) HW_8.out.gs d (by have r_1 := readL_len C.E d 30; have r_2 := readL_len C.E (d + 1) 31; have r_3 := writeL_len C.E d; have r_4 := answerL_len C.E d; (try simp only [List.length_append, List.length_cons, List.length_nil]); omega) (by omega) (by omega)).mono ?_
   rintro x w_9 ⟨⟨u_9, rfl⟩, hw_9⟩
   have HW_9 : Hid (Wd C W2 its ([] ++ c0 ++ readL C.E (d) 30 ++ [branI 5 (regI d 30) l] ++ c1 ++ [markI 2 l] ++ readL C.E (d) 30 ++ [insI 25 (regI d 30) 0 (regI d 30) 0] ++ writeL C.E d) (m1) w_9) := HW_8.out.trans hw_9
   clear hw_9
   try clear g0
   try clear g1
   try clear g2
   try clear k0
   try clear k1
   go_wp2_with fail
   have HZ := HWw.out HW_9.out
   refine bodyPost_end (v := .tuple #[]) (by simp [results, Tryz.results81, go_sem]) rfl ⟨⟨_, rfl⟩, ?_⟩
   rw [HE.out]
   simp only [List.append_assoc, List.cons_append, List.nil_append] at HZ ⊢
   exact HZ
end
section
open Go.RowKit
theorem exprS_step (C : GC) (hC : C.Ok) (e : List Nd) (A : Nat) (b : Nat → Nat) (G : Nat → Cod) (hc0 : Cut e A b) (hl1 : e.length ≤ 1048576) (hbd : ∀ i, i < A → CB (kid e b i).length (G i)) (hX : ∀ i, i < A → ExprS C (kid e b i) (G i)) : ExprS C e (genN C.E (rootN e) A G) := by
 have hk := kind_good hc0.root_good
 have : (rootN e).kind = 1 ∨ (rootN e).kind = 2 ∨ (rootN e).kind = 3 ∨ (rootN e).kind = 4 ∨ (rootN e).kind = 5 ∨ (rootN e).kind = 6 ∨ (rootN e).kind = 7 ∨ (rootN e).kind = 8 ∨ (rootN e).kind = 9 := by omega
 exact exprS_kind C hC e A b G hc0 hl1 hbd hX this
theorem exprS_any (C : GC) (hC : C.Ok) (N : Nat) : ∀ e : List Nd, e.length ≤ N → N ≤ 1048576 → oneB e = true → ∃ g, EA (genN C.E) e g ∧ CB e.length g ∧ ExprS C e g := by
 induction N with
 | zero => intro e hl _ h; have := one_pos h; omega
 | succ N ih =>
  intro e hl hN h
  obtain ⟨A, b, hc, hk⟩ := one_cuts h
  have h0 : ∀ i, ∃ g, i < A → EA (genN C.E) (kid e b i) g ∧ CB (kid e b i).length g ∧ ExprS C (kid e b i) g := by
   intro i
   by_cases hi : i < A
   ·obtain ⟨g, hg⟩ := ih (kid e b i) (by have := hc.kid_lt i hi; omega) (by omega) (hk i hi)
    exact ⟨g, fun _ => hg⟩
   ·exact ⟨fun _ l => ([], l), fun h => absurd h hi⟩
  refine ⟨_, EA.cut (gen_own C.E) hc (G := fun i => (h0 i).choose) (fun i hi => ((h0 i).choose_spec hi).1), ?_, exprS_step C hC e A b _ hc (by omega) (fun i hi => ((h0 i).choose_spec hi).2.1) (fun i hi => ((h0 i).choose_spec hi).2.2)⟩
  rw [← cut_len hc]
  exact gen_cb C.E hc.root_good hc.ar (F := kid e b) (fun i hi => ((h0 i).choose_spec hi).2.1)
theorem exprS_code (C : GC) (hC : C.Ok) {e : List Nd} (hl : e.length ≤ 1048576) (h : oneB e = true) : CB e.length (codeE C.E e) ∧ ExprS C e (codeE C.E e) := by
 obtain ⟨g, h1, h2, h3⟩ := exprS_any C hC e.length e (Nat.le_refl _) hl h
 unfold codeE
 rw [h1.eq]
 exact ⟨h2, h3⟩
def BlkC (C : GC) (v : Value) (g : Blk) (k : Nat) : Prop := SB k g ∧ ∀ (w : World) (its : List It) (l : Int), Gs C w its l → 0 ≤ l → l + 2 * k ≤ 100000000 → its.length + 24 * k ≤ 8000000 → Calls Tryz.prog 54 #[.pointer (some ⟨C.P, 0, none⟩), v] w fun x w' => (∃ u, x = .returned u) ∧ Wd C w its (g l).1 (g l).2 w'
end
section
open Go.RowKit
set_option maxRecDepth 100000 in
set_option maxHeartbeats 16000000 in
theorem stmtS_kind (C : GC) (hC : C.Ok) (s : St) (hkd : s.kind = 1 ∨ s.kind = 2 ∨ s.kind = 3 ∨ s.kind = 4 ∨ s.kind = 5 ∨ s.kind = 6 ∨ s.kind = 7 ∨ s.kind = 8) (ho2 : s.kind = 3 → oneB s.f = true) (ve vf va vb : Value) (a b : Blk) (ka kb : Nat) (w : World) (its : List It) (l : Int) (hG : Gs C w its l) (hN : Nodes C.w0 ve s.e) (hF : Nodes C.w0 vf s.f) (ho : oneB s.e = true) (hle : s.e.length ≤ 2000) (hlf : s.f.length ≤ 2000) (ha : BlkC C va a ka) (hb : BlkC C vb b kb) (hl0 : 0 ≤ l) (hl2 : l + 2 * (s.e.length + s.f.length + 1 + ka + kb) ≤ 100000000) (hil : its.length + 24 * (s.e.length + s.f.length + 1 + ka + kb) ≤ 8000000) (hen : C.en = C.en) :
  Calls Tryz.prog 70 #[.pointer (some ⟨C.P, 0, none⟩), .agg #[.int .i64 s.kind, .string s.name, ve, vf, .int .i64 s.thn, .int .i64 s.els], va, vb] w fun x w' => (∃ u, x = .returned u) ∧ Wd C w its (codeS C.E C.en s a b l).1 (codeS C.E C.en s a b l).2 w' := by
 obtain ⟨sk, nm, e, f, tn, ln⟩ := s
 simp only at hkd ho2 hN hF ho hle hlf hl2 hil ⊢
 obtain ⟨hcb, hx⟩ := exprS_code C hC (e := e) (by omega) ho
 have HX : Hid (ExprS C e (codeE C.E e)) := hx
 have HBd : Hid (CB e.length (codeE C.E e)) := hcb
 have HN : Hid (Nodes C.w0 ve e) := hN
 have HF : Hid (Nodes C.w0 vf f) := hF
 have HAb : Hid (BlkC C va a ka) := ha
 have HBb : Hid (BlkC C vb b kb) := hb
 obtain ⟨ae, ce, rfl, -⟩ := hN
 obtain ⟨af, cf, rfl, -⟩ := hF
 have HC : Hid C.Ok := hC
 have HG : Hid (Gs C w its l) := hG
 obtain ⟨W2, hW2⟩ : ∃ W2, W2 = w.alloc (.cells #[.int .i64 sk, .string nm, .slice ae e.length ce, .slice af f.length cf, .int .i64 tn, .int .i64 ln] 94) := ⟨_, rfl⟩
 have hb2 : Below w.heap.size w W2 := by rw [hW2]; exact (Below.refl _ _).alloc (Nat.le_refl _) _
 have HG2 : Hid (Gs C W2 its l) := HG.out.below HC.out hb2
 have HWw : Hid (∀ {new l' w'}, Wd C W2 its new l' w' → Wd C w its new l' w') := fun h => h.pre (Wq.below HG.out.es.lt hb2)
 have HCl : Hid (∀ w', Wq 6 C.P W2 w' → (w'.cell? ⟨w.heap.size, 1, none⟩ = some (.string nm)) ∧ (w'.cell? ⟨w.heap.size, 2, none⟩ = some (.slice ae e.length ce)) ∧ (w'.cell? ⟨w.heap.size, 3, none⟩ = some (.slice af f.length cf)) ∧ (w'.cell? ⟨w.heap.size, 5, none⟩ = some (.int .i64 ln))) := fun w' h => by
  have hp := HG.out.es.lt
  have a1 : w.heap.size ≠ C.P := by omega
  have a2 : some w.heap.size ≠ rbq 6 W2 C.P := fun h => by
   rw [rbq_below hb2 hp] at h
   have := HG.out.es.rlt h.symm
   omega
  refine ⟨h.cell a1 a2 ?_, h.cell a1 a2 ?_, h.cell a1 a2 ?_, h.cell a1 a2 ?_⟩ <;> (rw [hW2]; simp)
 have HW2 : Hid (W2 = _) := hW2
 clear hW2 hb2 hx hcb ha hb hG hC
 rcases hkd with rfl | rfl | rfl | rfl | rfl | rfl | rfl | rfl
 ·as_aux_lemma =>
   clear ho2
   obtain ⟨q0a, q0b, q0c⟩ := HBd.out (0) (l)
   obtain ⟨c0, m0, hG0⟩ : ∃ c m, codeE C.E e (0) (l) = (c, m) := ⟨_, _, rfl⟩
   rw [hG0] at q0a q0b q0c
   simp only at q0a q0b q0c
   have HC0 : Hid (∀ (W : World) (its' : List It), Gs C W its' (l) → its'.length + 24 * e.length ≤ 8000000 → Calls Tryz.prog 81 #[.pointer (some ⟨C.P, 0, none⟩), .slice ae e.length ce, .int .i64 (0)] W fun x w' => (∃ u, x = .returned u) ∧ Wd C W its' c0 m0 w') := fun W its' hg hln => by
    have := HX.out (.slice ae e.length ce) W its' (l) (0) HN.out hg (by omega) (by omega) (by omega) (by omega) hln
    rw [hG0] at this
    exact this
   go_enter Tryz.func70, Tryz.ntmps70
   obtain ⟨g1, g2, g3, g5⟩ := HCl.out W2 (Wq.refl _ _ _)
   clear g1
   clear g3
   clear g5
   go_wp2_with fail
   rw [← HW2.out]
   refine (HC0.out W2 its HG2.out (by (try simp only [List.length_append, List.length_cons, List.length_nil]); omega)).mono ?_
   rintro x w_1 ⟨⟨u_1, rfl⟩, hw_1⟩
   have HW_1 : Hid (Wd C W2 its (c0) (m0) w_1) := hw_1
   clear hw_1
   try clear g0
   try clear g1
   try clear g2
   try clear k0
   try clear k1
   try clear g3
   try clear g5
   have HL := localC C HC.out w_1 (its ++ c0) m0 HW_1.out.gs nm
   obtain ⟨g1, g2, g3, g5⟩ := HCl.out w_1 HW_1.out.wq
   clear g2
   clear g3
   clear g5
   go_wp2_with fail
   refine HL.mono ?_
   rintro x w0 ⟨rfl, hw0⟩
   rw [hw0]
   clear HL g1 hw0
   cases hloc : locN C.ns nm with
   | some z =>
    have hz : locG C.ns nm = z ∧ 0 ≤ z := locG_some hloc
    rw [hz.1]
    have hloc2 : C.E.loc nm = some z := hloc
    have HE : Hid (codeS C.E C.en ⟨1, nm, e, f, tn, ln⟩ a b l = (c0 ++ [insI 11 0 2 5 z], m0)) := by show _ = _; simp [codeS, hG0, assignL, hloc2]
    have hz0 := hz.2
    clear hz
    go_wp2_with fail
    refine (putC C HC.out w_1 (its ++ (c0)) (m0) HW_1.out.gs 11 0 2 5 z (by (try simp only [List.length_append, List.length_cons, List.length_nil]); omega)).mono ?_
    rintro x w_2 ⟨⟨u_2, rfl⟩, hw_2⟩
    have HW_2 : Hid (Wd C W2 its (c0 ++ [insI 11 0 2 5 z]) (m0) w_2) := HW_1.out.trans hw_2
    clear hw_2
    try clear g0
    try clear g1
    try clear g2
    try clear k0
    try clear k1
    try clear g3
    try clear g5
    go_wp2_with fail
    have HZ := HWw.out HW_2.out
    refine bodyPost_end (v := .tuple #[]) (by simp [results, Tryz.results70, go_sem]) rfl ⟨⟨_, rfl⟩, ?_⟩
    rw [HE.out]
    simp only [List.append_assoc, List.cons_append, List.nil_append] at HZ ⊢
    exact HZ
   | none =>
    have hz : locG C.ns nm = -1 := locG_no hloc
    rw [hz]
    have hloc2 : C.E.loc nm = none := hloc
    have HE : Hid (codeS C.E C.en ⟨1, nm, e, f, tn, ln⟩ a b l = (c0 ++ (loadL 31 (C.E.glob nm) ++ [insI 11 0 31 5 0]), m0)) := by show _ = _; simp [codeS, hG0, assignL, hloc2]
    clear hz
    obtain ⟨g1, g2, g3, g5⟩ := HCl.out w_1 HW_1.out.wq
    clear g2 g3 g5
    obtain ⟨ag, cg, hvg, -⟩ := HC.out.g
    obtain ⟨af, cf, hvf, -⟩ := HC.out.f
    have p0 : w_1.cell? ⟨C.P, 0, none⟩ = some C.vg := HW_1.out.gs.es.oth 0 (by decide) (by decide)
    have p1 : w_1.cell? ⟨C.P, 1, none⟩ = some C.vf := HW_1.out.gs.es.oth 1 (by decide) (by decide)
    rw [hvg] at p0
    rw [hvf] at p1
    have HGl : Hid (Calls Tryz.prog 84 #[.agg #[.slice ag C.gs.length cg, .slice af C.fs.length cf], .string nm] w_1.drew fun e w' => e = .returned (.int .i64 (C.E.glob nm)) ∧ Below w_1.heap.size w_1 w' ∧ w'.cell? ⟨C.P, 0, none⟩ = some (.slice ag C.gs.length cg) ∧ w'.cell? ⟨C.P, 1, none⟩ = some (.slice af C.fs.length cf) ∧ w'.cell? ⟨w.heap.size, 1, none⟩ = some (.string nm)) := by
     have hlt := HW_1.out.gs.es.lt
     have hlk := World.block_lt_of_cell? _ _ g1
     refine (globalC C HC.out w_1.drew (its ++ (c0)) (m0) (HW_1.out.gs.below HC.out (Below.refl _ _).drew) nm _ _ hvg hvf).mono ?_
     rintro e w' ⟨he, hb⟩
     have hb' : Below w_1.heap.size w_1 w' := (Below.refl _ _).drew.trans hb
     exact ⟨he, hb', (hb'.cell (p := ⟨C.P, 0, none⟩) hlt).trans p0, (hb'.cell (p := ⟨C.P, 1, none⟩) hlt).trans p1, (hb'.cell (p := ⟨w.heap.size, 1, none⟩) hlk).trans g1⟩
    have hgb := GC.glob_bd C HC.out nm
    have HLd : Hid (∀ W, Below w_1.heap.size w_1 W → Calls Tryz.prog 83 #[.pointer (some ⟨C.P, 0, none⟩), .int .i64 31, .int .i64 (C.E.glob nm)] W fun e w' => (∃ u, e = .returned u) ∧ Wd C w_1 (its ++ (c0)) (loadL 31 (C.E.glob nm)) (m0) w' ∧ w'.cell? ⟨C.P, 0, none⟩ = some (.slice ag C.gs.length cg) ∧ w'.cell? ⟨C.P, 1, none⟩ = some (.slice af C.fs.length cf) ∧ w'.cell? ⟨w.heap.size, 1, none⟩ = some (.string nm)) := fun W hW => by
     refine (loadC C HC.out W (its ++ (c0)) (m0) (HW_1.out.gs.below HC.out hW) 31 _ (by have r_5 := loadL_len 31 (C.E.glob nm); (try simp only [List.length_append, List.length_cons, List.length_nil]); omega) (by omega)).mono ?_
     rintro e w' ⟨hu, h2⟩
     have hwd := h2.pre (Wq.below HW_1.out.gs.es.lt hW)
     have y0 : w'.cell? ⟨C.P, 0, none⟩ = some C.vg := hwd.gs.es.oth 0 (by decide) (by decide)
     have y1 : w'.cell? ⟨C.P, 1, none⟩ = some C.vf := hwd.gs.es.oth 1 (by decide) (by decide)
     rw [hvg] at y0
     rw [hvf] at y1
     exact ⟨hu, hwd, y0, y1, (HCl.out w' (Wq.trans HW_1.out.wq hwd.wq)).1⟩
    clear hvg hvf
    have q0 : w_1.drew.cell? ⟨C.P, 0, none⟩ = some (.slice ag C.gs.length cg) := p0
    have q1 : w_1.drew.cell? ⟨C.P, 1, none⟩ = some (.slice af C.fs.length cf) := p1
    have q2 : w_1.drew.cell? ⟨w.heap.size, 1, none⟩ = some (.string nm) := g1
    generalize hgz : C.E.glob nm = gz at HGl HLd hgb
    go_wp2_with fail
    go_region_held3 (fun W => W.cell? ⟨C.P, 0, none⟩ = some (.slice ag C.gs.length cg) ∧ W.cell? ⟨C.P, 1, none⟩ = some (.slice af C.fs.length cf) ∧ W.cell? ⟨w.heap.size, 1, none⟩ = some (.string nm)) (go_simp) (first | (with_reducible refine Calls.mono HGl.out ?_; rintro x wg ⟨rfl, hbg, z0, z1, z2⟩) | (with_reducible refine Calls.mono (HLd.out wg hbg) ?_; rintro x wl ⟨⟨ul, rfl⟩, hwl, y0, y1, y2⟩))
    rw [← hgz] at hwl
    have HW_2 : Hid (Wd C W2 its (c0 ++ loadL 31 (C.E.glob nm)) (m0) wl) := HW_1.out.trans hwl
    clear hwl hbg p0 p1 q0 q1 q2 y0 y1 y2 z0 z1 z2 g1 HGl HLd
    go_wp2_with fail
    refine (putC C HC.out wl (its ++ (c0 ++ loadL 31 (C.E.glob nm))) (m0) HW_2.out.gs 11 0 31 5 0 (by have r_5 := loadL_len 31 (C.E.glob nm); (try simp only [List.length_append, List.length_cons, List.length_nil]); omega)).mono ?_
    rintro x w_3 ⟨⟨u_3, rfl⟩, hw_3⟩
    have HW_3 : Hid (Wd C W2 its (c0 ++ loadL 31 (C.E.glob nm) ++ [insI 11 0 31 5 0]) (m0) w_3) := HW_2.out.trans hw_3
    clear hw_3
    try clear g0
    try clear g1
    try clear g2
    try clear k0
    try clear k1
    try clear g3
    try clear g5
    go_wp2_with fail
    have HZ := HWw.out HW_3.out
    refine bodyPost_end (v := .tuple #[]) (by simp [results, Tryz.results70, go_sem]) rfl ⟨⟨_, rfl⟩, ?_⟩
    rw [HE.out]
    simp only [List.append_assoc, List.cons_append, List.nil_append] at HZ ⊢
    exact HZ
 ·as_aux_lemma =>
   clear ho2
   obtain ⟨q0a, q0b, q0c⟩ := HBd.out (0) (l)
   obtain ⟨c0, m0, hG0⟩ : ∃ c m, codeE C.E e (0) (l) = (c, m) := ⟨_, _, rfl⟩
   rw [hG0] at q0a q0b q0c
   simp only at q0a q0b q0c
   have HC0 : Hid (∀ (W : World) (its' : List It), Gs C W its' (l) → its'.length + 24 * e.length ≤ 8000000 → Calls Tryz.prog 81 #[.pointer (some ⟨C.P, 0, none⟩), .slice ae e.length ce, .int .i64 (0)] W fun x w' => (∃ u, x = .returned u) ∧ Wd C W its' c0 m0 w') := fun W its' hg hln => by
    have := HX.out (.slice ae e.length ce) W its' (l) (0) HN.out hg (by omega) (by omega) (by omega) (by omega) hln
    rw [hG0] at this
    exact this
   go_enter Tryz.func70, Tryz.ntmps70
   obtain ⟨g1, g2, g3, g5⟩ := HCl.out W2 (Wq.refl _ _ _)
   clear g1
   clear g3
   clear g5
   go_wp2_with fail
   rw [← HW2.out]
   refine (HC0.out W2 its HG2.out (by (try simp only [List.length_append, List.length_cons, List.length_nil]); omega)).mono ?_
   rintro x w_1 ⟨⟨u_1, rfl⟩, hw_1⟩
   have HW_1 : Hid (Wd C W2 its (c0) (m0) w_1) := hw_1
   clear hw_1
   try clear g0
   try clear g1
   try clear g2
   try clear k0
   try clear k1
   try clear g3
   try clear g5
   have HL := localC C HC.out w_1 (its ++ c0) m0 HW_1.out.gs nm
   obtain ⟨g1, g2, g3, g5⟩ := HCl.out w_1 HW_1.out.wq
   clear g2
   clear g3
   clear g5
   go_wp2_with fail
   refine HL.mono ?_
   rintro x w0 ⟨rfl, hw0⟩
   rw [hw0]
   clear HL g1 hw0
   cases hloc : locN C.ns nm with
   | some z =>
    have hz : locG C.ns nm = z ∧ 0 ≤ z := locG_some hloc
    rw [hz.1]
    have hloc2 : C.E.loc nm = some z := hloc
    have HE : Hid (codeS C.E C.en ⟨2, nm, e, f, tn, ln⟩ a b l = (c0 ++ [insI 11 0 2 5 z], m0)) := by show _ = _; simp [codeS, hG0, assignL, hloc2]
    have hz0 := hz.2
    clear hz
    go_wp2_with fail
    refine (putC C HC.out w_1 (its ++ (c0)) (m0) HW_1.out.gs 11 0 2 5 z (by (try simp only [List.length_append, List.length_cons, List.length_nil]); omega)).mono ?_
    rintro x w_2 ⟨⟨u_2, rfl⟩, hw_2⟩
    have HW_2 : Hid (Wd C W2 its (c0 ++ [insI 11 0 2 5 z]) (m0) w_2) := HW_1.out.trans hw_2
    clear hw_2
    try clear g0
    try clear g1
    try clear g2
    try clear k0
    try clear k1
    try clear g3
    try clear g5
    go_wp2_with fail
    have HZ := HWw.out HW_2.out
    refine bodyPost_end (v := .tuple #[]) (by simp [results, Tryz.results70, go_sem]) rfl ⟨⟨_, rfl⟩, ?_⟩
    rw [HE.out]
    simp only [List.append_assoc, List.cons_append, List.nil_append] at HZ ⊢
    exact HZ
   | none =>
    have hz : locG C.ns nm = -1 := locG_no hloc
    rw [hz]
    have hloc2 : C.E.loc nm = none := hloc
    have HE : Hid (codeS C.E C.en ⟨2, nm, e, f, tn, ln⟩ a b l = (c0 ++ (loadL 31 (C.E.glob nm) ++ [insI 11 0 31 5 0]), m0)) := by show _ = _; simp [codeS, hG0, assignL, hloc2]
    clear hz
    obtain ⟨g1, g2, g3, g5⟩ := HCl.out w_1 HW_1.out.wq
    clear g2 g3 g5
    obtain ⟨ag, cg, hvg, -⟩ := HC.out.g
    obtain ⟨af, cf, hvf, -⟩ := HC.out.f
    have p0 : w_1.cell? ⟨C.P, 0, none⟩ = some C.vg := HW_1.out.gs.es.oth 0 (by decide) (by decide)
    have p1 : w_1.cell? ⟨C.P, 1, none⟩ = some C.vf := HW_1.out.gs.es.oth 1 (by decide) (by decide)
    rw [hvg] at p0
    rw [hvf] at p1
    have HGl : Hid (Calls Tryz.prog 84 #[.agg #[.slice ag C.gs.length cg, .slice af C.fs.length cf], .string nm] w_1.drew fun e w' => e = .returned (.int .i64 (C.E.glob nm)) ∧ Below w_1.heap.size w_1 w' ∧ w'.cell? ⟨C.P, 0, none⟩ = some (.slice ag C.gs.length cg) ∧ w'.cell? ⟨C.P, 1, none⟩ = some (.slice af C.fs.length cf) ∧ w'.cell? ⟨w.heap.size, 1, none⟩ = some (.string nm)) := by
     have hlt := HW_1.out.gs.es.lt
     have hlk := World.block_lt_of_cell? _ _ g1
     refine (globalC C HC.out w_1.drew (its ++ (c0)) (m0) (HW_1.out.gs.below HC.out (Below.refl _ _).drew) nm _ _ hvg hvf).mono ?_
     rintro e w' ⟨he, hb⟩
     have hb' : Below w_1.heap.size w_1 w' := (Below.refl _ _).drew.trans hb
     exact ⟨he, hb', (hb'.cell (p := ⟨C.P, 0, none⟩) hlt).trans p0, (hb'.cell (p := ⟨C.P, 1, none⟩) hlt).trans p1, (hb'.cell (p := ⟨w.heap.size, 1, none⟩) hlk).trans g1⟩
    have hgb := GC.glob_bd C HC.out nm
    have HLd : Hid (∀ W, Below w_1.heap.size w_1 W → Calls Tryz.prog 83 #[.pointer (some ⟨C.P, 0, none⟩), .int .i64 31, .int .i64 (C.E.glob nm)] W fun e w' => (∃ u, e = .returned u) ∧ Wd C w_1 (its ++ (c0)) (loadL 31 (C.E.glob nm)) (m0) w' ∧ w'.cell? ⟨C.P, 0, none⟩ = some (.slice ag C.gs.length cg) ∧ w'.cell? ⟨C.P, 1, none⟩ = some (.slice af C.fs.length cf) ∧ w'.cell? ⟨w.heap.size, 1, none⟩ = some (.string nm)) := fun W hW => by
     refine (loadC C HC.out W (its ++ (c0)) (m0) (HW_1.out.gs.below HC.out hW) 31 _ (by have r_5 := loadL_len 31 (C.E.glob nm); (try simp only [List.length_append, List.length_cons, List.length_nil]); omega) (by omega)).mono ?_
     rintro e w' ⟨hu, h2⟩
     have hwd := h2.pre (Wq.below HW_1.out.gs.es.lt hW)
     have y0 : w'.cell? ⟨C.P, 0, none⟩ = some C.vg := hwd.gs.es.oth 0 (by decide) (by decide)
     have y1 : w'.cell? ⟨C.P, 1, none⟩ = some C.vf := hwd.gs.es.oth 1 (by decide) (by decide)
     rw [hvg] at y0
     rw [hvf] at y1
     exact ⟨hu, hwd, y0, y1, (HCl.out w' (Wq.trans HW_1.out.wq hwd.wq)).1⟩
    clear hvg hvf
    have q0 : w_1.drew.cell? ⟨C.P, 0, none⟩ = some (.slice ag C.gs.length cg) := p0
    have q1 : w_1.drew.cell? ⟨C.P, 1, none⟩ = some (.slice af C.fs.length cf) := p1
    have q2 : w_1.drew.cell? ⟨w.heap.size, 1, none⟩ = some (.string nm) := g1
    generalize hgz : C.E.glob nm = gz at HGl HLd hgb
    go_wp2_with fail
    go_region_held3 (fun W => W.cell? ⟨C.P, 0, none⟩ = some (.slice ag C.gs.length cg) ∧ W.cell? ⟨C.P, 1, none⟩ = some (.slice af C.fs.length cf) ∧ W.cell? ⟨w.heap.size, 1, none⟩ = some (.string nm)) (go_simp) (first | (with_reducible refine Calls.mono HGl.out ?_; rintro x wg ⟨rfl, hbg, z0, z1, z2⟩) | (with_reducible refine Calls.mono (HLd.out wg hbg) ?_; rintro x wl ⟨⟨ul, rfl⟩, hwl, y0, y1, y2⟩))
    rw [← hgz] at hwl
    have HW_2 : Hid (Wd C W2 its (c0 ++ loadL 31 (C.E.glob nm)) (m0) wl) := HW_1.out.trans hwl
    clear hwl hbg p0 p1 q0 q1 q2 y0 y1 y2 z0 z1 z2 g1 HGl HLd
    go_wp2_with fail
    refine (putC C HC.out wl (its ++ (c0 ++ loadL 31 (C.E.glob nm))) (m0) HW_2.out.gs 11 0 31 5 0 (by have r_5 := loadL_len 31 (C.E.glob nm); (try simp only [List.length_append, List.length_cons, List.length_nil]); omega)).mono ?_
    rintro x w_3 ⟨⟨u_3, rfl⟩, hw_3⟩
    have HW_3 : Hid (Wd C W2 its (c0 ++ loadL 31 (C.E.glob nm) ++ [insI 11 0 31 5 0]) (m0) w_3) := HW_2.out.trans hw_3
    clear hw_3
    try clear g0
    try clear g1
    try clear g2
    try clear k0
    try clear k1
    try clear g3
    try clear g5
    go_wp2_with fail
    have HZ := HWw.out HW_3.out
    refine bodyPost_end (v := .tuple #[]) (by simp [results, Tryz.results70, go_sem]) rfl ⟨⟨_, rfl⟩, ?_⟩
    rw [HE.out]
    simp only [List.append_assoc, List.cons_append, List.nil_append] at HZ ⊢
    exact HZ
 ·as_aux_lemma =>
   replace ho2 := ho2 rfl
   obtain ⟨hcf, hxf⟩ := exprS_code C HC.out (e := f) (by omega) ho2
   have HXf : Hid (ExprS C f (codeE C.E f)) := hxf
   have HBf : Hid (CB f.length (codeE C.E f)) := hcf
   clear hcf hxf
   obtain ⟨q0a, q0b, q0c⟩ := HBd.out (0) (l)
   obtain ⟨c0, m0, hG0⟩ : ∃ c m, codeE C.E e (0) (l) = (c, m) := ⟨_, _, rfl⟩
   rw [hG0] at q0a q0b q0c
   simp only at q0a q0b q0c
   have HC0 : Hid (∀ (W : World) (its' : List It), Gs C W its' (l) → its'.length + 24 * e.length ≤ 8000000 → Calls Tryz.prog 81 #[.pointer (some ⟨C.P, 0, none⟩), .slice ae e.length ce, .int .i64 (0)] W fun x w' => (∃ u, x = .returned u) ∧ Wd C W its' c0 m0 w') := fun W its' hg hln => by
    have := HX.out (.slice ae e.length ce) W its' (l) (0) HN.out hg (by omega) (by omega) (by omega) (by omega) hln
    rw [hG0] at this
    exact this
   obtain ⟨q1a, q1b, q1c⟩ := HBf.out (1) (m0)
   obtain ⟨c1, m1, hG1⟩ : ∃ c m, codeE C.E f (1) (m0) = (c, m) := ⟨_, _, rfl⟩
   rw [hG1] at q1a q1b q1c
   simp only at q1a q1b q1c
   have HC1 : Hid (∀ (W : World) (its' : List It), Gs C W its' (m0) → its'.length + 24 * f.length ≤ 8000000 → Calls Tryz.prog 81 #[.pointer (some ⟨C.P, 0, none⟩), .slice af f.length cf, .int .i64 (1)] W fun x w' => (∃ u, x = .returned u) ∧ Wd C W its' c1 m1 w') := fun W its' hg hln => by
    have := HXf.out (.slice af f.length cf) W its' (m0) (1) HF.out hg (by omega) (by omega) (by omega) (by omega) hln
    rw [hG1] at this
    exact this
   have HE : Hid (codeS C.E C.en ⟨3, nm, e, f, tn, ln⟩ a b l = (c0 ++ c1 ++ [insI 18 5 5 0 2] ++ loadL 31 (C.E.glob nm) ++ [insI 21 31 31 5 0, insI 11 0 31 6 0], m1)) := by show _ = _; simp [codeS, hG0, hG1]
   go_enter Tryz.func70, Tryz.ntmps70
   obtain ⟨g1, g2, g3, g5⟩ := HCl.out W2 (Wq.refl _ _ _)
   clear g1
   clear g3
   clear g5
   go_wp2_with fail
   rw [← HW2.out]
   refine (HC0.out W2 its HG2.out (by have r_5 := loadL_len 31 (C.E.glob nm); (try simp only [List.length_append, List.length_cons, List.length_nil]); omega)).mono ?_
   rintro x w_1 ⟨⟨u_1, rfl⟩, hw_1⟩
   have HW_1 : Hid (Wd C W2 its (c0) (m0) w_1) := hw_1
   clear hw_1
   try clear g0
   try clear g1
   try clear g2
   try clear k0
   try clear k1
   try clear g3
   try clear g5
   obtain ⟨g1, g2, g3, g5⟩ := HCl.out w_1 HW_1.out.wq
   clear g1
   clear g2
   clear g5
   go_wp2_with fail
   refine (HC1.out w_1 (its ++ (c0)) HW_1.out.gs (by have r_5 := loadL_len 31 (C.E.glob nm); (try simp only [List.length_append, List.length_cons, List.length_nil]); omega)).mono ?_
   rintro x w_2 ⟨⟨u_2, rfl⟩, hw_2⟩
   have HW_2 : Hid (Wd C W2 its (c0 ++ c1) (m1) w_2) := HW_1.out.trans hw_2
   clear hw_2
   try clear g0
   try clear g1
   try clear g2
   try clear k0
   try clear k1
   try clear g3
   try clear g5
   go_wp2_with fail
   refine (putC C HC.out w_2 (its ++ (c0 ++ c1)) (m1) HW_2.out.gs 18 5 5 0 2 (by have r_5 := loadL_len 31 (C.E.glob nm); (try simp only [List.length_append, List.length_cons, List.length_nil]); omega)).mono ?_
   rintro x w_3 ⟨⟨u_3, rfl⟩, hw_3⟩
   have HW_3 : Hid (Wd C W2 its (c0 ++ c1 ++ [insI 18 5 5 0 2]) (m1) w_3) := HW_2.out.trans hw_3
   clear hw_3
   try clear g0
   try clear g1
   try clear g2
   try clear k0
   try clear k1
   try clear g3
   try clear g5
   obtain ⟨g1, g2, g3, g5⟩ := HCl.out w_3 HW_3.out.wq
   clear g2 g3 g5
   obtain ⟨ag, cg, hvg, -⟩ := HC.out.g
   obtain ⟨af, cf, hvf, -⟩ := HC.out.f
   have p0 : w_3.cell? ⟨C.P, 0, none⟩ = some C.vg := HW_3.out.gs.es.oth 0 (by decide) (by decide)
   have p1 : w_3.cell? ⟨C.P, 1, none⟩ = some C.vf := HW_3.out.gs.es.oth 1 (by decide) (by decide)
   rw [hvg] at p0
   rw [hvf] at p1
   have HGl : Hid (Calls Tryz.prog 84 #[.agg #[.slice ag C.gs.length cg, .slice af C.fs.length cf], .string nm] w_3.drew fun e w' => e = .returned (.int .i64 (C.E.glob nm)) ∧ Below w_3.heap.size w_3 w' ∧ w'.cell? ⟨C.P, 0, none⟩ = some (.slice ag C.gs.length cg) ∧ w'.cell? ⟨C.P, 1, none⟩ = some (.slice af C.fs.length cf) ∧ w'.cell? ⟨w.heap.size, 1, none⟩ = some (.string nm)) := by
     have hlt := HW_3.out.gs.es.lt
     have hlk := World.block_lt_of_cell? _ _ g1
     refine (globalC C HC.out w_3.drew (its ++ (c0 ++ c1 ++ [insI 18 5 5 0 2])) (m1) (HW_3.out.gs.below HC.out (Below.refl _ _).drew) nm _ _ hvg hvf).mono ?_
     rintro e w' ⟨he, hb⟩
     have hb' : Below w_3.heap.size w_3 w' := (Below.refl _ _).drew.trans hb
     exact ⟨he, hb', (hb'.cell (p := ⟨C.P, 0, none⟩) hlt).trans p0, (hb'.cell (p := ⟨C.P, 1, none⟩) hlt).trans p1, (hb'.cell (p := ⟨w.heap.size, 1, none⟩) hlk).trans g1⟩
   have hgb := GC.glob_bd C HC.out nm
   have HLd : Hid (∀ W, Below w_3.heap.size w_3 W → Calls Tryz.prog 83 #[.pointer (some ⟨C.P, 0, none⟩), .int .i64 31, .int .i64 (C.E.glob nm)] W fun e w' => (∃ u, e = .returned u) ∧ Wd C w_3 (its ++ (c0 ++ c1 ++ [insI 18 5 5 0 2])) (loadL 31 (C.E.glob nm)) (m1) w' ∧ w'.cell? ⟨C.P, 0, none⟩ = some (.slice ag C.gs.length cg) ∧ w'.cell? ⟨C.P, 1, none⟩ = some (.slice af C.fs.length cf) ∧ w'.cell? ⟨w.heap.size, 1, none⟩ = some (.string nm)) := fun W hW => by
     refine (loadC C HC.out W (its ++ (c0 ++ c1 ++ [insI 18 5 5 0 2])) (m1) (HW_3.out.gs.below HC.out hW) 31 _ (by have r_5 := loadL_len 31 (C.E.glob nm); (try simp only [List.length_append, List.length_cons, List.length_nil]); omega) (by omega)).mono ?_
     rintro e w' ⟨hu, h2⟩
     have hwd := h2.pre (Wq.below HW_3.out.gs.es.lt hW)
     have y0 : w'.cell? ⟨C.P, 0, none⟩ = some C.vg := hwd.gs.es.oth 0 (by decide) (by decide)
     have y1 : w'.cell? ⟨C.P, 1, none⟩ = some C.vf := hwd.gs.es.oth 1 (by decide) (by decide)
     rw [hvg] at y0
     rw [hvf] at y1
     exact ⟨hu, hwd, y0, y1, (HCl.out w' (Wq.trans HW_3.out.wq hwd.wq)).1⟩
   clear hvg hvf
   have q0 : w_3.drew.cell? ⟨C.P, 0, none⟩ = some (.slice ag C.gs.length cg) := p0
   have q1 : w_3.drew.cell? ⟨C.P, 1, none⟩ = some (.slice af C.fs.length cf) := p1
   have q2 : w_3.drew.cell? ⟨w.heap.size, 1, none⟩ = some (.string nm) := g1
   generalize hgz : C.E.glob nm = gz at HGl HLd hgb
   go_wp2_with fail
   go_region_held3 (fun W => W.cell? ⟨C.P, 0, none⟩ = some (.slice ag C.gs.length cg) ∧ W.cell? ⟨C.P, 1, none⟩ = some (.slice af C.fs.length cf) ∧ W.cell? ⟨w.heap.size, 1, none⟩ = some (.string nm)) (go_simp) (first | (with_reducible refine Calls.mono HGl.out ?_; rintro x wg ⟨rfl, hbg, z0, z1, z2⟩) | (with_reducible refine Calls.mono (HLd.out wg hbg) ?_; rintro x wl ⟨⟨ul, rfl⟩, hwl, y0, y1, y2⟩))
   rw [← hgz] at hwl
   have HW_4 : Hid (Wd C W2 its (c0 ++ c1 ++ [insI 18 5 5 0 2] ++ loadL 31 (C.E.glob nm)) (m1) wl) := HW_3.out.trans hwl
   clear hwl hbg p0 p1 q0 q1 q2 y0 y1 y2 z0 z1 z2 g1 HGl HLd
   go_wp2_with fail
   refine (putC C HC.out wl (its ++ (c0 ++ c1 ++ [insI 18 5 5 0 2] ++ loadL 31 (C.E.glob nm))) (m1) HW_4.out.gs 21 31 31 5 0 (by have r_5 := loadL_len 31 (C.E.glob nm); (try simp only [List.length_append, List.length_cons, List.length_nil]); omega)).mono ?_
   rintro x w_5 ⟨⟨u_5, rfl⟩, hw_5⟩
   have HW_5 : Hid (Wd C W2 its (c0 ++ c1 ++ [insI 18 5 5 0 2] ++ loadL 31 (C.E.glob nm) ++ [insI 21 31 31 5 0]) (m1) w_5) := HW_4.out.trans hw_5
   clear hw_5
   try clear g0
   try clear g1
   try clear g2
   try clear k0
   try clear k1
   try clear g3
   try clear g5
   go_wp2_with fail
   refine (putC C HC.out w_5 (its ++ (c0 ++ c1 ++ [insI 18 5 5 0 2] ++ loadL 31 (C.E.glob nm) ++ [insI 21 31 31 5 0])) (m1) HW_5.out.gs 11 0 31 6 0 (by have r_5 := loadL_len 31 (C.E.glob nm); (try simp only [List.length_append, List.length_cons, List.length_nil]); omega)).mono ?_
   rintro x w_6 ⟨⟨u_6, rfl⟩, hw_6⟩
   have HW_6 : Hid (Wd C W2 its (c0 ++ c1 ++ [insI 18 5 5 0 2] ++ loadL 31 (C.E.glob nm) ++ [insI 21 31 31 5 0] ++ [insI 11 0 31 6 0]) (m1) w_6) := HW_5.out.trans hw_6
   clear hw_6
   try clear g0
   try clear g1
   try clear g2
   try clear k0
   try clear k1
   try clear g3
   try clear g5
   go_wp2_with fail
   have HZ := HWw.out HW_6.out
   refine bodyPost_end (v := .tuple #[]) (by simp [results, Tryz.results70, go_sem]) rfl ⟨⟨_, rfl⟩, ?_⟩
   rw [HE.out]
   simp only [List.append_assoc, List.cons_append, List.nil_append] at HZ ⊢
   exact HZ
 ·as_aux_lemma =>
   clear ho2
   by_cases hln : 0 < ln
   ·obtain ⟨q0a, q0b, q0c⟩ := HBd.out (0) (l + 2)
    obtain ⟨c0, m0, hG0⟩ : ∃ c m, codeE C.E e (0) (l + 2) = (c, m) := ⟨_, _, rfl⟩
    rw [hG0] at q0a q0b q0c
    simp only at q0a q0b q0c
    have HC0 : Hid (∀ (W : World) (its' : List It), Gs C W its' (l + 2) → its'.length + 24 * e.length ≤ 8000000 → Calls Tryz.prog 81 #[.pointer (some ⟨C.P, 0, none⟩), .slice ae e.length ce, .int .i64 (0)] W fun x w' => (∃ u, x = .returned u) ∧ Wd C W its' c0 m0 w') := fun W its' hg hln => by
     have := HX.out (.slice ae e.length ce) W its' (l + 2) (0) HN.out hg (by omega) (by omega) (by omega) (by omega) hln
     rw [hG0] at this
     exact this
    obtain ⟨raa, rab, rac⟩ := HAb.out.1 (m0)
    obtain ⟨ba, na, hBa⟩ : ∃ c m, a (m0) = (c, m) := ⟨_, _, rfl⟩
    rw [hBa] at raa rab rac
    simp only at raa rab rac
    have HKa : Hid (∀ (W : World) (its' : List It), Gs C W its' (m0) → its'.length + 24 * ka ≤ 8000000 → Calls Tryz.prog 54 #[.pointer (some ⟨C.P, 0, none⟩), va] W fun x w' => (∃ u, x = .returned u) ∧ Wd C W its' ba na w') := fun W its' hg hln => by
     have := HAb.out.2 W its' (m0) hg (by omega) (by omega) hln
     rw [hBa] at this
     exact this
    obtain ⟨rba, rbb, rbc⟩ := HBb.out.1 (na)
    obtain ⟨bb, nb, hBb⟩ : ∃ c m, b (na) = (c, m) := ⟨_, _, rfl⟩
    rw [hBb] at rba rbb rbc
    simp only at rba rbb rbc
    have HKb : Hid (∀ (W : World) (its' : List It), Gs C W its' (na) → its'.length + 24 * kb ≤ 8000000 → Calls Tryz.prog 54 #[.pointer (some ⟨C.P, 0, none⟩), vb] W fun x w' => (∃ u, x = .returned u) ∧ Wd C W its' bb nb w') := fun W its' hg hln => by
     have := HBb.out.2 W its' (na) hg (by omega) (by omega) hln
     rw [hBb] at this
     exact this
    have HE : Hid (codeS C.E C.en ⟨4, nm, e, f, tn, ln⟩ a b l = (c0 ++ [branI 4 5 l] ++ ba ++ [markI 4 (l + 1), markI 2 l] ++ bb ++ [markI 2 (l + 1)], nb)) := by show _ = _; simp [codeS, hln, hG0, hBa, hBb]
    go_enter Tryz.func70, Tryz.ntmps70
    go_wp2_with fail
    rw [← HW2.out]
    refine (labC C HC.out W2 its (l) HG2.out (by omega)).mono ?_
    rintro x w_1 ⟨rfl, hw_1⟩
    have HW_1 : Hid (Wd C W2 its ([]) (l + 1) w_1) := hw_1
    clear hw_1
    try clear g0
    try clear g1
    try clear g2
    try clear k0
    try clear k1
    try clear g3
    try clear g5
    obtain ⟨g1, g2, g3, g5⟩ := HCl.out w_1 HW_1.out.wq
    clear g1
    clear g2
    clear g3
    go_wp2_with fail
    refine (labC C HC.out w_1 (its ++ ([])) (l + 1) HW_1.out.gs (by omega)).mono ?_
    rintro x w_2 ⟨rfl, hw_2⟩
    have HW_2 : Hid (Wd C W2 its ([] ++ []) (l + 1 + 1) w_2) := HW_1.out.trans hw_2
    clear hw_2
    try clear g0
    try clear g1
    try clear g2
    try clear k0
    try clear k1
    try clear g3
    try clear g5
    rw [show l + 1 + 1 = l + 2 by omega] at HW_2
    obtain ⟨g1, g2, g3, g5⟩ := HCl.out w_2 HW_2.out.wq
    clear g1
    clear g3
    clear g5
    go_wp2_with fail
    refine (HC0.out w_2 (its ++ ([] ++ [])) HW_2.out.gs (by (try simp only [List.length_append, List.length_cons, List.length_nil]); omega)).mono ?_
    rintro x w_3 ⟨⟨u_3, rfl⟩, hw_3⟩
    have HW_3 : Hid (Wd C W2 its ([] ++ [] ++ c0) (m0) w_3) := HW_2.out.trans hw_3
    clear hw_3
    try clear g0
    try clear g1
    try clear g2
    try clear k0
    try clear k1
    try clear g3
    try clear g5
    go_wp2_with fail
    refine (branC C HC.out w_3 (its ++ ([] ++ [] ++ c0)) (m0) HW_3.out.gs 4 5 l (by (try simp only [List.length_append, List.length_cons, List.length_nil]); omega)).mono ?_
    rintro x w_4 ⟨⟨u_4, rfl⟩, hw_4⟩
    have HW_4 : Hid (Wd C W2 its ([] ++ [] ++ c0 ++ [branI 4 5 l]) (m0) w_4) := HW_3.out.trans hw_4
    clear hw_4
    try clear g0
    try clear g1
    try clear g2
    try clear k0
    try clear k1
    try clear g3
    try clear g5
    go_wp2_with fail
    refine (HKa.out w_4 (its ++ ([] ++ [] ++ c0 ++ [branI 4 5 l])) HW_4.out.gs (by (try simp only [List.length_append, List.length_cons, List.length_nil]); omega)).mono ?_
    rintro x w_5 ⟨⟨u_5, rfl⟩, hw_5⟩
    have HW_5 : Hid (Wd C W2 its ([] ++ [] ++ c0 ++ [branI 4 5 l] ++ ba) (na) w_5) := HW_4.out.trans hw_5
    clear hw_5
    try clear g0
    try clear g1
    try clear g2
    try clear k0
    try clear k1
    try clear g3
    try clear g5
    obtain ⟨g1, g2, g3, g5⟩ := HCl.out w_5 HW_5.out.wq
    clear g1
    clear g2
    clear g3
    go_wp2_with fail
    refine (markC C HC.out w_5 (its ++ ([] ++ [] ++ c0 ++ [branI 4 5 l] ++ ba)) (na) HW_5.out.gs 4 (l + 1) (by (try simp only [List.length_append, List.length_cons, List.length_nil]); omega)).mono ?_
    rintro x w_6 ⟨⟨u_6, rfl⟩, hw_6⟩
    have HW_6 : Hid (Wd C W2 its ([] ++ [] ++ c0 ++ [branI 4 5 l] ++ ba ++ [markI 4 (l + 1)]) (na) w_6) := HW_5.out.trans hw_6
    clear hw_6
    try clear g0
    try clear g1
    try clear g2
    try clear k0
    try clear k1
    try clear g3
    try clear g5
    go_wp2_with fail
    refine (markC C HC.out w_6 (its ++ ([] ++ [] ++ c0 ++ [branI 4 5 l] ++ ba ++ [markI 4 (l + 1)])) (na) HW_6.out.gs 2 l (by (try simp only [List.length_append, List.length_cons, List.length_nil]); omega)).mono ?_
    rintro x w_7 ⟨⟨u_7, rfl⟩, hw_7⟩
    have HW_7 : Hid (Wd C W2 its ([] ++ [] ++ c0 ++ [branI 4 5 l] ++ ba ++ [markI 4 (l + 1)] ++ [markI 2 l]) (na) w_7) := HW_6.out.trans hw_7
    clear hw_7
    try clear g0
    try clear g1
    try clear g2
    try clear k0
    try clear k1
    try clear g3
    try clear g5
    obtain ⟨g1, g2, g3, g5⟩ := HCl.out w_7 HW_7.out.wq
    clear g1
    clear g2
    clear g3
    go_wp2_with fail
    refine (HKb.out w_7 (its ++ ([] ++ [] ++ c0 ++ [branI 4 5 l] ++ ba ++ [markI 4 (l + 1)] ++ [markI 2 l])) HW_7.out.gs (by (try simp only [List.length_append, List.length_cons, List.length_nil]); omega)).mono ?_
    rintro x w_8 ⟨⟨u_8, rfl⟩, hw_8⟩
    have HW_8 : Hid (Wd C W2 its ([] ++ [] ++ c0 ++ [branI 4 5 l] ++ ba ++ [markI 4 (l + 1)] ++ [markI 2 l] ++ bb) (nb) w_8) := HW_7.out.trans hw_8
    clear hw_8
    try clear g0
    try clear g1
    try clear g2
    try clear k0
    try clear k1
    try clear g3
    try clear g5
    go_wp2_with fail
    refine (markC C HC.out w_8 (its ++ ([] ++ [] ++ c0 ++ [branI 4 5 l] ++ ba ++ [markI 4 (l + 1)] ++ [markI 2 l] ++ bb)) (nb) HW_8.out.gs 2 (l + 1) (by (try simp only [List.length_append, List.length_cons, List.length_nil]); omega)).mono ?_
    rintro x w_9 ⟨⟨u_9, rfl⟩, hw_9⟩
    have HW_9 : Hid (Wd C W2 its ([] ++ [] ++ c0 ++ [branI 4 5 l] ++ ba ++ [markI 4 (l + 1)] ++ [markI 2 l] ++ bb ++ [markI 2 (l + 1)]) (nb) w_9) := HW_8.out.trans hw_9
    clear hw_9
    try clear g0
    try clear g1
    try clear g2
    try clear k0
    try clear k1
    try clear g3
    try clear g5
    go_wp2_with fail
    have HZ := HWw.out HW_9.out
    refine bodyPost_end (v := .tuple #[]) (by simp [results, Tryz.results70, go_sem]) rfl ⟨⟨_, rfl⟩, ?_⟩
    rw [HE.out]
    simp only [List.append_assoc, List.cons_append, List.nil_append] at HZ ⊢
    exact HZ
   ·obtain ⟨q0a, q0b, q0c⟩ := HBd.out (0) (l + 1)
    obtain ⟨c0, m0, hG0⟩ : ∃ c m, codeE C.E e (0) (l + 1) = (c, m) := ⟨_, _, rfl⟩
    rw [hG0] at q0a q0b q0c
    simp only at q0a q0b q0c
    have HC0 : Hid (∀ (W : World) (its' : List It), Gs C W its' (l + 1) → its'.length + 24 * e.length ≤ 8000000 → Calls Tryz.prog 81 #[.pointer (some ⟨C.P, 0, none⟩), .slice ae e.length ce, .int .i64 (0)] W fun x w' => (∃ u, x = .returned u) ∧ Wd C W its' c0 m0 w') := fun W its' hg hln => by
     have := HX.out (.slice ae e.length ce) W its' (l + 1) (0) HN.out hg (by omega) (by omega) (by omega) (by omega) hln
     rw [hG0] at this
     exact this
    obtain ⟨raa, rab, rac⟩ := HAb.out.1 (m0)
    obtain ⟨ba, na, hBa⟩ : ∃ c m, a (m0) = (c, m) := ⟨_, _, rfl⟩
    rw [hBa] at raa rab rac
    simp only at raa rab rac
    have HKa : Hid (∀ (W : World) (its' : List It), Gs C W its' (m0) → its'.length + 24 * ka ≤ 8000000 → Calls Tryz.prog 54 #[.pointer (some ⟨C.P, 0, none⟩), va] W fun x w' => (∃ u, x = .returned u) ∧ Wd C W its' ba na w') := fun W its' hg hln => by
     have := HAb.out.2 W its' (m0) hg (by omega) (by omega) hln
     rw [hBa] at this
     exact this
    have hln0 : ¬ (0 < ln) := hln
    have HE : Hid (codeS C.E C.en ⟨4, nm, e, f, tn, ln⟩ a b l = (c0 ++ [branI 4 5 l] ++ ba ++ [markI 2 l], na)) := by show _ = _; simp [codeS, hln0, hG0, hBa]
    go_enter Tryz.func70, Tryz.ntmps70
    go_wp2_with fail
    rw [← HW2.out]
    refine (labC C HC.out W2 its (l) HG2.out (by omega)).mono ?_
    rintro x w_1 ⟨rfl, hw_1⟩
    have HW_1 : Hid (Wd C W2 its ([]) (l + 1) w_1) := hw_1
    clear hw_1
    try clear g0
    try clear g1
    try clear g2
    try clear k0
    try clear k1
    try clear g3
    try clear g5
    obtain ⟨g1, g2, g3, g5⟩ := HCl.out w_1 HW_1.out.wq
    clear g1
    clear g3
    go_wp2_with fail
    refine (HC0.out w_1 (its ++ ([])) HW_1.out.gs (by (try simp only [List.length_append, List.length_cons, List.length_nil]); omega)).mono ?_
    rintro x w_2 ⟨⟨u_2, rfl⟩, hw_2⟩
    have HW_2 : Hid (Wd C W2 its ([] ++ c0) (m0) w_2) := HW_1.out.trans hw_2
    clear hw_2
    try clear g0
    try clear g1
    try clear g2
    try clear k0
    try clear k1
    try clear g3
    try clear g5
    go_wp2_with fail
    refine (branC C HC.out w_2 (its ++ ([] ++ c0)) (m0) HW_2.out.gs 4 5 l (by (try simp only [List.length_append, List.length_cons, List.length_nil]); omega)).mono ?_
    rintro x w_3 ⟨⟨u_3, rfl⟩, hw_3⟩
    have HW_3 : Hid (Wd C W2 its ([] ++ c0 ++ [branI 4 5 l]) (m0) w_3) := HW_2.out.trans hw_3
    clear hw_3
    try clear g0
    try clear g1
    try clear g2
    try clear k0
    try clear k1
    try clear g3
    try clear g5
    go_wp2_with fail
    refine (HKa.out w_3 (its ++ ([] ++ c0 ++ [branI 4 5 l])) HW_3.out.gs (by (try simp only [List.length_append, List.length_cons, List.length_nil]); omega)).mono ?_
    rintro x w_4 ⟨⟨u_4, rfl⟩, hw_4⟩
    have HW_4 : Hid (Wd C W2 its ([] ++ c0 ++ [branI 4 5 l] ++ ba) (na) w_4) := HW_3.out.trans hw_4
    clear hw_4
    try clear g0
    try clear g1
    try clear g2
    try clear k0
    try clear k1
    try clear g3
    try clear g5
    obtain ⟨g1, g2, g3, g5⟩ := HCl.out w_4 HW_4.out.wq
    clear g1
    clear g2
    clear g3
    go_wp2_with fail
    refine (markC C HC.out w_4 (its ++ ([] ++ c0 ++ [branI 4 5 l] ++ ba)) (na) HW_4.out.gs 2 l (by (try simp only [List.length_append, List.length_cons, List.length_nil]); omega)).mono ?_
    rintro x w_5 ⟨⟨u_5, rfl⟩, hw_5⟩
    have HW_5 : Hid (Wd C W2 its ([] ++ c0 ++ [branI 4 5 l] ++ ba ++ [markI 2 l]) (na) w_5) := HW_4.out.trans hw_5
    clear hw_5
    try clear g0
    try clear g1
    try clear g2
    try clear k0
    try clear k1
    try clear g3
    try clear g5
    obtain ⟨g1, g2, g3, g5⟩ := HCl.out w_5 HW_5.out.wq
    clear g1
    clear g2
    clear g3
    go_wp2_with fail
    have HZ := HWw.out HW_5.out
    refine bodyPost_end (v := .tuple #[]) (by simp [results, Tryz.results70, go_sem]) rfl ⟨⟨_, rfl⟩, ?_⟩
    rw [HE.out]
    simp only [List.append_assoc, List.cons_append, List.nil_append] at HZ ⊢
    exact HZ
 ·as_aux_lemma =>
   clear ho2
   obtain ⟨q0a, q0b, q0c⟩ := HBd.out (0) (l + 2)
   obtain ⟨c0, m0, hG0⟩ : ∃ c m, codeE C.E e (0) (l + 2) = (c, m) := ⟨_, _, rfl⟩
   rw [hG0] at q0a q0b q0c
   simp only at q0a q0b q0c
   have HC0 : Hid (∀ (W : World) (its' : List It), Gs C W its' (l + 2) → its'.length + 24 * e.length ≤ 8000000 → Calls Tryz.prog 81 #[.pointer (some ⟨C.P, 0, none⟩), .slice ae e.length ce, .int .i64 (0)] W fun x w' => (∃ u, x = .returned u) ∧ Wd C W its' c0 m0 w') := fun W its' hg hln => by
    have := HX.out (.slice ae e.length ce) W its' (l + 2) (0) HN.out hg (by omega) (by omega) (by omega) (by omega) hln
    rw [hG0] at this
    exact this
   obtain ⟨raa, rab, rac⟩ := HAb.out.1 (m0)
   obtain ⟨ba, na, hBa⟩ : ∃ c m, a (m0) = (c, m) := ⟨_, _, rfl⟩
   rw [hBa] at raa rab rac
   simp only at raa rab rac
   have HKa : Hid (∀ (W : World) (its' : List It), Gs C W its' (m0) → its'.length + 24 * ka ≤ 8000000 → Calls Tryz.prog 54 #[.pointer (some ⟨C.P, 0, none⟩), va] W fun x w' => (∃ u, x = .returned u) ∧ Wd C W its' ba na w') := fun W its' hg hln => by
    have := HAb.out.2 W its' (m0) hg (by omega) (by omega) hln
    rw [hBa] at this
    exact this
   have HE : Hid (codeS C.E C.en ⟨5, nm, e, f, tn, ln⟩ a b l = ([markI 2 l] ++ c0 ++ [branI 4 5 (l + 1)] ++ ba ++ [markI 4 l, markI 2 (l + 1)], na)) := by show _ = _; simp [codeS, hG0, hBa]
   go_enter Tryz.func70, Tryz.ntmps70
   go_wp2_with fail
   rw [← HW2.out]
   refine (labC C HC.out W2 its (l) HG2.out (by omega)).mono ?_
   rintro x w_1 ⟨rfl, hw_1⟩
   have HW_1 : Hid (Wd C W2 its ([]) (l + 1) w_1) := hw_1
   clear hw_1
   try clear g0
   try clear g1
   try clear g2
   try clear k0
   try clear k1
   try clear g3
   try clear g5
   go_wp2_with fail
   refine (labC C HC.out w_1 (its ++ ([])) (l + 1) HW_1.out.gs (by omega)).mono ?_
   rintro x w_2 ⟨rfl, hw_2⟩
   have HW_2 : Hid (Wd C W2 its ([] ++ []) (l + 1 + 1) w_2) := HW_1.out.trans hw_2
   clear hw_2
   try clear g0
   try clear g1
   try clear g2
   try clear k0
   try clear k1
   try clear g3
   try clear g5
   rw [show l + 1 + 1 = l + 2 by omega] at HW_2
   go_wp2_with fail
   refine (markC C HC.out w_2 (its ++ ([] ++ [])) (l + 2) HW_2.out.gs 2 l (by (try simp only [List.length_append, List.length_cons, List.length_nil]); omega)).mono ?_
   rintro x w_3 ⟨⟨u_3, rfl⟩, hw_3⟩
   have HW_3 : Hid (Wd C W2 its ([] ++ [] ++ [markI 2 l]) (l + 2) w_3) := HW_2.out.trans hw_3
   clear hw_3
   try clear g0
   try clear g1
   try clear g2
   try clear k0
   try clear k1
   try clear g3
   try clear g5
   obtain ⟨g1, g2, g3, g5⟩ := HCl.out w_3 HW_3.out.wq
   clear g1
   clear g3
   clear g5
   go_wp2_with fail
   refine (HC0.out w_3 (its ++ ([] ++ [] ++ [markI 2 l])) HW_3.out.gs (by (try simp only [List.length_append, List.length_cons, List.length_nil]); omega)).mono ?_
   rintro x w_4 ⟨⟨u_4, rfl⟩, hw_4⟩
   have HW_4 : Hid (Wd C W2 its ([] ++ [] ++ [markI 2 l] ++ c0) (m0) w_4) := HW_3.out.trans hw_4
   clear hw_4
   try clear g0
   try clear g1
   try clear g2
   try clear k0
   try clear k1
   try clear g3
   try clear g5
   go_wp2_with fail
   refine (branC C HC.out w_4 (its ++ ([] ++ [] ++ [markI 2 l] ++ c0)) (m0) HW_4.out.gs 4 5 (l + 1) (by (try simp only [List.length_append, List.length_cons, List.length_nil]); omega)).mono ?_
   rintro x w_5 ⟨⟨u_5, rfl⟩, hw_5⟩
   have HW_5 : Hid (Wd C W2 its ([] ++ [] ++ [markI 2 l] ++ c0 ++ [branI 4 5 (l + 1)]) (m0) w_5) := HW_4.out.trans hw_5
   clear hw_5
   try clear g0
   try clear g1
   try clear g2
   try clear k0
   try clear k1
   try clear g3
   try clear g5
   go_wp2_with fail
   refine (HKa.out w_5 (its ++ ([] ++ [] ++ [markI 2 l] ++ c0 ++ [branI 4 5 (l + 1)])) HW_5.out.gs (by (try simp only [List.length_append, List.length_cons, List.length_nil]); omega)).mono ?_
   rintro x w_6 ⟨⟨u_6, rfl⟩, hw_6⟩
   have HW_6 : Hid (Wd C W2 its ([] ++ [] ++ [markI 2 l] ++ c0 ++ [branI 4 5 (l + 1)] ++ ba) (na) w_6) := HW_5.out.trans hw_6
   clear hw_6
   try clear g0
   try clear g1
   try clear g2
   try clear k0
   try clear k1
   try clear g3
   try clear g5
   go_wp2_with fail
   refine (markC C HC.out w_6 (its ++ ([] ++ [] ++ [markI 2 l] ++ c0 ++ [branI 4 5 (l + 1)] ++ ba)) (na) HW_6.out.gs 4 l (by (try simp only [List.length_append, List.length_cons, List.length_nil]); omega)).mono ?_
   rintro x w_7 ⟨⟨u_7, rfl⟩, hw_7⟩
   have HW_7 : Hid (Wd C W2 its ([] ++ [] ++ [markI 2 l] ++ c0 ++ [branI 4 5 (l + 1)] ++ ba ++ [markI 4 l]) (na) w_7) := HW_6.out.trans hw_7
   clear hw_7
   try clear g0
   try clear g1
   try clear g2
   try clear k0
   try clear k1
   try clear g3
   try clear g5
   go_wp2_with fail
   refine (markC C HC.out w_7 (its ++ ([] ++ [] ++ [markI 2 l] ++ c0 ++ [branI 4 5 (l + 1)] ++ ba ++ [markI 4 l])) (na) HW_7.out.gs 2 (l + 1) (by (try simp only [List.length_append, List.length_cons, List.length_nil]); omega)).mono ?_
   rintro x w_8 ⟨⟨u_8, rfl⟩, hw_8⟩
   have HW_8 : Hid (Wd C W2 its ([] ++ [] ++ [markI 2 l] ++ c0 ++ [branI 4 5 (l + 1)] ++ ba ++ [markI 4 l] ++ [markI 2 (l + 1)]) (na) w_8) := HW_7.out.trans hw_8
   clear hw_8
   try clear g0
   try clear g1
   try clear g2
   try clear k0
   try clear k1
   try clear g3
   try clear g5
   go_wp2_with fail
   have HZ := HWw.out HW_8.out
   refine bodyPost_end (v := .tuple #[]) (by simp [results, Tryz.results70, go_sem]) rfl ⟨⟨_, rfl⟩, ?_⟩
   rw [HE.out]
   simp only [List.append_assoc, List.cons_append, List.nil_append] at HZ ⊢
   exact HZ
 ·as_aux_lemma =>
   clear ho2
   obtain ⟨q0a, q0b, q0c⟩ := HBd.out (0) (l)
   obtain ⟨c0, m0, hG0⟩ : ∃ c m, codeE C.E e (0) (l) = (c, m) := ⟨_, _, rfl⟩
   rw [hG0] at q0a q0b q0c
   simp only at q0a q0b q0c
   have HC0 : Hid (∀ (W : World) (its' : List It), Gs C W its' (l) → its'.length + 24 * e.length ≤ 8000000 → Calls Tryz.prog 81 #[.pointer (some ⟨C.P, 0, none⟩), .slice ae e.length ce, .int .i64 (0)] W fun x w' => (∃ u, x = .returned u) ∧ Wd C W its' c0 m0 w') := fun W its' hg hln => by
    have := HX.out (.slice ae e.length ce) W its' (l) (0) HN.out hg (by omega) (by omega) (by omega) (by omega) hln
    rw [hG0] at this
    exact this
   have HE : Hid (codeS C.E C.en ⟨6, nm, e, f, tn, ln⟩ a b l = (c0 ++ [insI 12 10 5 0 0, markI 4 C.en], m0)) := by show _ = _; simp [codeS, hG0]
   go_enter Tryz.func70, Tryz.ntmps70
   obtain ⟨g1, g2, g3, g5⟩ := HCl.out W2 (Wq.refl _ _ _)
   clear g1
   clear g3
   clear g5
   go_wp2_with fail
   rw [← HW2.out]
   refine (HC0.out W2 its HG2.out (by (try simp only [List.length_append, List.length_cons, List.length_nil]); omega)).mono ?_
   rintro x w_1 ⟨⟨u_1, rfl⟩, hw_1⟩
   have HW_1 : Hid (Wd C W2 its (c0) (m0) w_1) := hw_1
   clear hw_1
   try clear g0
   try clear g1
   try clear g2
   try clear k0
   try clear k1
   try clear g3
   try clear g5
   go_wp2_with fail
   refine (putC C HC.out w_1 (its ++ (c0)) (m0) HW_1.out.gs 12 10 5 0 0 (by (try simp only [List.length_append, List.length_cons, List.length_nil]); omega)).mono ?_
   rintro x w_2 ⟨⟨u_2, rfl⟩, hw_2⟩
   have HW_2 : Hid (Wd C W2 its (c0 ++ [insI 12 10 5 0 0]) (m0) w_2) := HW_1.out.trans hw_2
   clear hw_2
   try clear g0
   try clear g1
   try clear g2
   try clear k0
   try clear k1
   try clear g3
   try clear g5
   have p4 : w_2.cell? ⟨C.P, 4, none⟩ = some (.int .i64 C.en) := HW_2.out.gs.es.oth 4 (by decide) (by decide)
   go_wp2_with fail
   refine (markC C HC.out w_2 (its ++ (c0 ++ [insI 12 10 5 0 0])) (m0) HW_2.out.gs 4 C.en (by (try simp only [List.length_append, List.length_cons, List.length_nil]); omega)).mono ?_
   rintro x w_3 ⟨⟨u_3, rfl⟩, hw_3⟩
   have HW_3 : Hid (Wd C W2 its (c0 ++ [insI 12 10 5 0 0] ++ [markI 4 C.en]) (m0) w_3) := HW_2.out.trans hw_3
   clear hw_3
   try clear g0
   try clear g1
   try clear g2
   try clear k0
   try clear k1
   try clear g3
   try clear g5
   clear p4
   go_wp2_with fail
   have HZ := HWw.out HW_3.out
   refine bodyPost_end (v := .tuple #[]) (by simp [results, Tryz.results70, go_sem]) rfl ⟨⟨_, rfl⟩, ?_⟩
   rw [HE.out]
   simp only [List.append_assoc, List.cons_append, List.nil_append] at HZ ⊢
   exact HZ
 ·as_aux_lemma =>
   clear ho2
   obtain ⟨q0a, q0b, q0c⟩ := HBd.out (0) (l)
   obtain ⟨c0, m0, hG0⟩ : ∃ c m, codeE C.E e (0) (l) = (c, m) := ⟨_, _, rfl⟩
   rw [hG0] at q0a q0b q0c
   simp only at q0a q0b q0c
   have HC0 : Hid (∀ (W : World) (its' : List It), Gs C W its' (l) → its'.length + 24 * e.length ≤ 8000000 → Calls Tryz.prog 81 #[.pointer (some ⟨C.P, 0, none⟩), .slice ae e.length ce, .int .i64 (0)] W fun x w' => (∃ u, x = .returned u) ∧ Wd C W its' c0 m0 w') := fun W its' hg hln => by
    have := HX.out (.slice ae e.length ce) W its' (l) (0) HN.out hg (by omega) (by omega) (by omega) (by omega) hln
    rw [hG0] at this
    exact this
   have HE : Hid (codeS C.E C.en ⟨7, nm, e, f, tn, ln⟩ a b l = (c0 ++ [insI 12 10 5 0 0, insI 12 17 0 0 1, insI 34 0 0 0 0], m0)) := by show _ = _; simp [codeS, hG0]
   go_enter Tryz.func70, Tryz.ntmps70
   obtain ⟨g1, g2, g3, g5⟩ := HCl.out W2 (Wq.refl _ _ _)
   clear g1
   clear g3
   clear g5
   go_wp2_with fail
   rw [← HW2.out]
   refine (HC0.out W2 its HG2.out (by (try simp only [List.length_append, List.length_cons, List.length_nil]); omega)).mono ?_
   rintro x w_1 ⟨⟨u_1, rfl⟩, hw_1⟩
   have HW_1 : Hid (Wd C W2 its (c0) (m0) w_1) := hw_1
   clear hw_1
   try clear g0
   try clear g1
   try clear g2
   try clear k0
   try clear k1
   try clear g3
   try clear g5
   go_wp2_with fail
   refine (putC C HC.out w_1 (its ++ (c0)) (m0) HW_1.out.gs 12 10 5 0 0 (by (try simp only [List.length_append, List.length_cons, List.length_nil]); omega)).mono ?_
   rintro x w_2 ⟨⟨u_2, rfl⟩, hw_2⟩
   have HW_2 : Hid (Wd C W2 its (c0 ++ [insI 12 10 5 0 0]) (m0) w_2) := HW_1.out.trans hw_2
   clear hw_2
   try clear g0
   try clear g1
   try clear g2
   try clear k0
   try clear k1
   try clear g3
   try clear g5
   go_wp2_with fail
   refine (putC C HC.out w_2 (its ++ (c0 ++ [insI 12 10 5 0 0])) (m0) HW_2.out.gs 12 17 0 0 1 (by (try simp only [List.length_append, List.length_cons, List.length_nil]); omega)).mono ?_
   rintro x w_3 ⟨⟨u_3, rfl⟩, hw_3⟩
   have HW_3 : Hid (Wd C W2 its (c0 ++ [insI 12 10 5 0 0] ++ [insI 12 17 0 0 1]) (m0) w_3) := HW_2.out.trans hw_3
   clear hw_3
   try clear g0
   try clear g1
   try clear g2
   try clear k0
   try clear k1
   try clear g3
   try clear g5
   go_wp2_with fail
   refine (putC C HC.out w_3 (its ++ (c0 ++ [insI 12 10 5 0 0] ++ [insI 12 17 0 0 1])) (m0) HW_3.out.gs 34 0 0 0 0 (by (try simp only [List.length_append, List.length_cons, List.length_nil]); omega)).mono ?_
   rintro x w_4 ⟨⟨u_4, rfl⟩, hw_4⟩
   have HW_4 : Hid (Wd C W2 its (c0 ++ [insI 12 10 5 0 0] ++ [insI 12 17 0 0 1] ++ [insI 34 0 0 0 0]) (m0) w_4) := HW_3.out.trans hw_4
   clear hw_4
   try clear g0
   try clear g1
   try clear g2
   try clear k0
   try clear k1
   try clear g3
   try clear g5
   go_wp2_with fail
   have HZ := HWw.out HW_4.out
   refine bodyPost_end (v := .tuple #[]) (by simp [results, Tryz.results70, go_sem]) rfl ⟨⟨_, rfl⟩, ?_⟩
   rw [HE.out]
   simp only [List.append_assoc, List.cons_append, List.nil_append] at HZ ⊢
   exact HZ
 ·as_aux_lemma =>
   clear ho2
   obtain ⟨q0a, q0b, q0c⟩ := HBd.out (0) (l)
   obtain ⟨c0, m0, hG0⟩ : ∃ c m, codeE C.E e (0) (l) = (c, m) := ⟨_, _, rfl⟩
   rw [hG0] at q0a q0b q0c
   simp only at q0a q0b q0c
   have HC0 : Hid (∀ (W : World) (its' : List It), Gs C W its' (l) → its'.length + 24 * e.length ≤ 8000000 → Calls Tryz.prog 81 #[.pointer (some ⟨C.P, 0, none⟩), .slice ae e.length ce, .int .i64 (0)] W fun x w' => (∃ u, x = .returned u) ∧ Wd C W its' c0 m0 w') := fun W its' hg hln => by
    have := HX.out (.slice ae e.length ce) W its' (l) (0) HN.out hg (by omega) (by omega) (by omega) (by omega) hln
    rw [hG0] at this
    exact this
   have HE : Hid (codeS C.E C.en ⟨8, nm, e, f, tn, ln⟩ a b l = (c0, m0)) := by show _ = _; simp [codeS, hG0]
   go_enter Tryz.func70, Tryz.ntmps70
   obtain ⟨g1, g2, g3, g5⟩ := HCl.out W2 (Wq.refl _ _ _)
   clear g1
   clear g3
   clear g5
   go_wp2_with fail
   rw [← HW2.out]
   refine (HC0.out W2 its HG2.out (by (try simp only [List.length_append, List.length_cons, List.length_nil]); omega)).mono ?_
   rintro x w_1 ⟨⟨u_1, rfl⟩, hw_1⟩
   have HW_1 : Hid (Wd C W2 its (c0) (m0) w_1) := hw_1
   clear hw_1
   try clear g0
   try clear g1
   try clear g2
   try clear k0
   try clear k1
   try clear g3
   try clear g5
   go_wp2_with fail
   have HZ := HWw.out HW_1.out
   refine bodyPost_end (v := .tuple #[]) (by simp [results, Tryz.results70, go_sem]) rfl ⟨⟨_, rfl⟩, ?_⟩
   rw [HE.out]
   simp only [List.append_assoc, List.cons_append, List.nil_append] at HZ ⊢
   exact HZ
end
section
open Go.RowKit
structure StOk (s:St):Prop where
 b:stmtB s=true
 e:s.e.length<=2000
 f:s.f.length<=2000
theorem StOk.kind {s:St} (h:StOk s):1<=s.kind/\s.kind<=8:=by
 have:=h.b
 unfold stmtB at this
 simp only [Bool.and_eq_true,decide_eq_true_eq] at this
 exact this.1.1.1.1.1.1
theorem StOk.one {s:St} (h:StOk s):oneB s.e=true:=by
 have:=h.b
 unfold stmtB at this
 simp only [Bool.and_eq_true] at this
 exact this.1.1.1.1.2
theorem StOk.two {s:St} (h:StOk s) (hk:s.kind=3):oneB s.f=true:=by
 have:=h.b
 unfold stmtB at this
 simp only [Bool.and_eq_true,if_pos hk] at this
 exact this.1.1.1.2
theorem stmtS_any (C:GC) (hC:C.Ok) (s:St) (hs:StOk s) (ve vf va vb:Value) (a b:Blk) (ka kb:Nat) (w:World) (its:List It) (l:Int) (hG:Gs C w its l) (hN:Nodes C.w0 ve s.e) (hF:Nodes C.w0 vf s.f) (ha:BlkC C va a ka) (hb:BlkC C vb b kb) (hl0:0<=l) (hl2:l+2*(s.e.length+s.f.length+1+ka+kb)<=100000000) (hil:its.length+24*(s.e.length+s.f.length+1+ka+kb)<=8000000) :
  Calls Tryz.prog 70 #[.pointer (some ⟨C.P,0,none⟩),.agg #[.int .i64 s.kind,.string s.name,ve,vf,.int .i64 s.thn,.int .i64 s.els],va,vb] w fun x w'=>(∃u,x = .returned u)/\Wd C w its (codeS C.E C.en s a b l).1 (codeS C.E C.en s a b l).2 w':=by
 have hk:=hs.kind
 have:s.kind=1∨s.kind=2∨s.kind=3∨s.kind=4∨s.kind=5∨s.kind=6∨s.kind=7∨s.kind=8:=by omega
 exact stmtS_kind C hC s this hs.two ve vf va vb a b ka kb w its l hG hN hF hs.one hs.e hs.f ha hb hl0 hl2 hil rfl
theorem dt2 {α:Type} (l:List α) (i j:Nat):(l.take (i+j)).drop i=(l.drop i).take j:=by
 rw [List.drop_take];congr 1;omega
theorem drop_cons3 {α:Type} (l:List α) (j:Nat) (h:j<l.length):l.drop j=l[j]::l.drop (j+1):=(List.getElem_cons_drop h).symm
theorem block_step (C:GC) (hC:C.Ok) (ss:List St) (v:Value) (hS:Stmts C.w0 v ss) (hfit:fitB ss=true) (hok : ∀s∈ss,StOk s) (hlen:ss.length<=1000)
  (IH : ∀(tt:List St) (u:Value),tt.length<ss.length->Stmts C.w0 u tt->fitB tt=true->(∀s∈tt,StOk s)->BlkC C u (codeB C.E C.en tt) (szLs tt)):BlkC C v (codeB C.E C.en ss) (szLs ss):=by
 refine ⟨codeB_sb C.E C.en ss.length ss (Nat.le_refl _) (fun s hs=>⟨(exprS_code C hC (by have:=(hok s hs).e;omega) (hok s hs).one).1,fun h3=>(exprS_code C hC (by have:=(hok s hs).f;omega) ((hok s hs).two h3)).1⟩),?_⟩
 intro w its l hG hl0 hl2 hil
 have HS:=hide hS
 obtain ⟨ab,cb,rfl,hc1,hc2,hbc⟩:=hS
 have HBC:=hide hbc
 have HOk:=hide hok
 have HIH:=hide IH
 have HC:=hide hC
 have HG:=hide hG
 have HFit:=hide hfit
 obtain ⟨Z,hZ⟩ : ∃Z,Z=szLs ss:=⟨_,rfl⟩
 have HZ:=hide hZ
 rw [<-hZ] at hl2 hil
 clear hbc hok IH hC hG hfit hZ
 go_enter Tryz.func54,Tryz.ntmps54
 go_wp2_with fail
 go_loopw [4] (fun i wr=>∃(k:Nat) (pre:List It) (L:Int),k<=ss.length/\i = .int .i64 k/\Wd C w its pre L wr/\fitB (ss.drop k)=true/\codeB C.E C.en ss l=(pre++(codeB C.E C.en (ss.drop k) L).1,(codeB C.E C.en (ss.drop k) L).2)/\l<=L/\L+2*szLs (ss.drop k)<=l+2*Z/\pre.length+24*szLs (ss.drop k)<=24*Z) (fun i _=>ss.length-(RowKit.intOf i).toNat)
 case atStart=>exact ⟨0,[],l,Nat.zero_le _,rfl,Wd.nil HG.out,by rw [List.drop_zero];exact HFit.out,by rw [List.drop_zero];rfl,Int.le_refl _,by rw [List.drop_zero,HZ.out];omega,by rw [List.drop_zero,HZ.out];simp⟩
 case round=>
  obtain ⟨k,pre,L,hk,rfl,hW,hft,hcode,hL1,hL2,hL3⟩:=hrel
  have HW:=hide hW
  have HCode:=hide hcode
  clear hW hcode HG HFit
  by_cases hlt:k<ss.length
  ·obtain ⟨b,off,rfl,hcell⟩:=HBC.out (by omega)
   obtain ⟨ve,vf,⟨c0,c1,c2,c3,c4,c5⟩,hne,hnf⟩:=hcell k hlt
   have hB:=HW.out.gs.bel
   have hlb:=World.block_lt_of_cell? _ _ c0
   have d0:=(hB.cell (p:=⟨b,off+k*6,none⟩) hlb).trans c0
   have d1:=(hB.cell (p:=⟨b,off+k*6+1,none⟩) hlb).trans c1
   have d2:=(hB.cell (p:=⟨b,off+k*6+2,none⟩) hlb).trans c2
   have d3:=(hB.cell (p:=⟨b,off+k*6+3,none⟩) hlb).trans c3
   have d4:=(hB.cell (p:=⟨b,off+k*6+4,none⟩) hlb).trans c4
   have d5:=(hB.cell (p:=⟨b,off+k*6+5,none⟩) hlb).trans c5
   rw [drop_cons3 ss k hlt,fitB_cons] at hft
   simp only [Bool.and_eq_true,decide_eq_true_eq] at hft
   obtain ⟨⟨p1,p2,p3,p4⟩,f1,f2,f3⟩:=hft
   rw [drop_cons3 ss k hlt,szLs_cons] at hL2 hL3
   have HCd:Hid (codeB C.E C.en ss l=(pre++(codeB C.E C.en (ss[k]::ss.drop (k+1)) L).1,(codeB C.E C.en (ss[k]::ss.drop (k+1)) L).2)):=by
    show _=_
    rw [<-drop_cons3 ss k hlt]
    exact HCode.out
   have hSk:StOk ss[k]:=HOk.out _ (List.getElem_mem hlt)
   have HSk:=hide hSk
   have hle:=hSk.e
   have hlf:=hSk.f
   clear HCode hcell c0 c1 c2 c3 c4 c5 hB hSk
   have hrl:(ss.drop (k+1)).length=ss.length-(k+1):=by simp
   generalize ss[k]=s at *
   obtain ⟨sk,nm,e,f,tnI,lnI⟩:=s
   simp only at p1 p2 p3 p4 f1 f2 f3 hL2 hL3 HCd d0 d1 d2 d3 d4 d5 hne hnf hle hlf
   obtain ⟨tn,rfl⟩:=Int.eq_ofNat_of_zero_le p1
   obtain ⟨ln,rfl⟩:=Int.eq_ofNat_of_zero_le p3
   simp only [Int.toNat_natCast] at f1 f2 f3
   rw [dt2] at f2
   have hltn:k+1+tn<=ss.length:=by omega
   have hlln:k+1+tn+ln<=ss.length:=by omega
   have hpz:=szLs_parts (ss.drop (k+1)) tn ln
   have HNe:=hide hne
   have HNf:=hide hnf
   obtain ⟨ae,ce,rfl,-⟩:=hne
   obtain ⟨af,cf,rfl,-⟩:=hnf
   obtain ⟨a5,k5,hr5,hs5⟩ : ∃a5 k5,(∀w:World,(Instr.slice 84 (.slice (some ⟨b,off,none⟩) ss.length cb) (some (.int .i64 ((k:Int)+1))) (some (.int .i64 ((k:Int)+1+(tn:Int)))) none).run Tryz.prog w = .ok (.slice a5 tn k5) w)/\Stmts C.w0 (.slice a5 tn k5) ((ss.drop (k+1)).take tn):=by
    have h:=cut_run2 (some ⟨b,off,none⟩) ss.length cb (k+1) (k+1+tn) (by omega) (by omega) (by omega) ((k:Int)+1) ((k:Int)+1+(tn:Int)) (by omega) (by omega)
    have h':=HS.out.cut (k+1) (k+1+tn) (by omega) (by omega)
    rw [show k+1+tn-(k+1)=tn by omega] at h h'
    rw [dt2] at h'
    exact ⟨_,_,h,h'⟩
   obtain ⟨a6,k6,hr6,hs6⟩ : ∃a6 k6,(∀w:World,(Instr.slice 84 (.slice (some ⟨b,off,none⟩) ss.length cb) (some (.int .i64 ((k:Int)+1+(tn:Int)))) (some (.int .i64 ((k:Int)+1+(tn:Int)+(ln:Int)))) none).run Tryz.prog w = .ok (.slice a6 ln k6) w)/\Stmts C.w0 (.slice a6 ln k6) (((ss.drop (k+1)).drop tn).take ln):=by
    have h:=cut_run2 (some ⟨b,off,none⟩) ss.length cb (k+1+tn) (k+1+tn+ln) (by omega) (by omega) (by omega) ((k:Int)+1+(tn:Int)) ((k:Int)+1+(tn:Int)+(ln:Int)) (by omega) (by omega)
    have h':=HS.out.cut (k+1+tn) (k+1+tn+ln) (by omega) (by omega)
    rw [show k+1+tn+ln-(k+1+tn)=ln by omega] at h h'
    rw [dt2,<-List.drop_drop] at h'
    exact ⟨_,_,h,h'⟩
   have HK5:Hid (BlkC C (.slice a5 tn k5) (codeB C.E C.en ((ss.drop (k+1)).take tn)) (szLs ((ss.drop (k+1)).take tn))):=HIH.out _ _ (by simp;omega) hs5 f1 (fun x hx=>HOk.out x (List.mem_of_mem_drop (List.mem_of_mem_take hx)))
   have HK6:Hid (BlkC C (.slice a6 ln k6) (codeB C.E C.en (((ss.drop (k+1)).drop tn).take ln)) (szLs (((ss.drop (k+1)).drop tn).take ln))):=HIH.out _ _ (by simp;omega) hs6 f2 (fun x hx=>HOk.out x (List.mem_of_mem_drop (List.mem_of_mem_drop (List.mem_of_mem_take hx))))
   obtain ⟨W2,hW2⟩ : ∃W2,W2=wr.alloc (.cells #[.int .i64 sk,.string nm,.slice ae e.length ce,.slice af f.length cf,.int .i64 (tn:Int),.int .i64 (ln:Int)] 94):=⟨_,rfl⟩
   have hb2:Bl wr W2:=by rw [hW2];exact (Below.refl _ _).alloc (Nat.le_refl _) _
   have hb3:Bl wr W2.drew:=hb2.drew
   have HG2:Hid (Gs C W2.drew (its++pre) L):=HW.out.gs.below HC.out hb3
   have hcb:=codeB_sb C.E C.en _ ((ss.drop (k+1)).take tn) (Nat.le_refl _) (fun s hs=>by have h:=HOk.out s (List.mem_of_mem_drop (List.mem_of_mem_take hs));exact ⟨(exprS_code C HC.out (by have:=h.e;omega) h.one).1,fun h3=>(exprS_code C HC.out (by have:=h.f;omega) (h.two h3)).1⟩)
   have HSt:Hid (Calls Tryz.prog 70 #[.pointer (some ⟨C.P,0,none⟩),.agg #[.int .i64 sk,.string nm,.slice ae e.length ce,.slice af f.length cf,.int .i64 (tn:Int),.int .i64 (ln:Int)],.slice a5 tn k5,.slice a6 ln k6] W2.drew fun x w'=>(∃u,x = .returned u)/\Wd C W2.drew (its++pre) (codeS C.E C.en ⟨sk,nm,e,f,tn,ln⟩ (codeB C.E C.en ((ss.drop (k+1)).take tn)) (codeB C.E C.en (((ss.drop (k+1)).drop tn).take ln)) L).1 (codeS C.E C.en ⟨sk,nm,e,f,tn,ln⟩ (codeB C.E C.en ((ss.drop (k+1)).take tn)) (codeB C.E C.en (((ss.drop (k+1)).drop tn).take ln)) L).2 w'):=stmtS_any C HC.out ⟨sk,nm,e,f,tn,ln⟩ HSk.out _ _ _ _ _ _ _ _ W2.drew (its++pre) L HG2.out HNe.out HNf.out HK5.out HK6.out (by omega) (by simp only;omega) (by simp only [l_a];omega)
   have hsb:=codeS_sb C.E C.en ⟨sk,nm,e,f,tn,ln⟩ _ _ _ _ (exprS_code C HC.out (e:=e) (by omega) HSk.out.one).1 (fun h3=>(exprS_code C HC.out (e:=f) (by omega) (HSk.out.two h3)).1) HK5.out.1 HK6.out.1 L
   have HNx:Hid (codeB C.E C.en (⟨sk,nm,e,f,tn,ln⟩::ss.drop (k+1)) L=((codeS C.E C.en ⟨sk,nm,e,f,tn,ln⟩ (codeB C.E C.en ((ss.drop (k+1)).take tn)) (codeB C.E C.en (((ss.drop (k+1)).drop tn).take ln)) L).1++(codeB C.E C.en ((ss.drop (k+1)).drop (tn+ln)) (codeS C.E C.en ⟨sk,nm,e,f,tn,ln⟩ (codeB C.E C.en ((ss.drop (k+1)).take tn)) (codeB C.E C.en (((ss.drop (k+1)).drop tn).take ln)) L).2).1,(codeB C.E C.en ((ss.drop (k+1)).drop (tn+ln)) (codeS C.E C.en ⟨sk,nm,e,f,tn,ln⟩ (codeB C.E C.en ((ss.drop (k+1)).take tn)) (codeB C.E C.en (((ss.drop (k+1)).drop tn).take ln)) L).2).2)):=codeB_cons C.E C.en ⟨sk,nm,e,f,tn,ln⟩ (ss.drop (k+1)) L
   generalize codeS C.E C.en ⟨sk,nm,e,f,tn,ln⟩ (codeB C.E C.en ((ss.drop (k+1)).take tn)) (codeB C.E C.en (((ss.drop (k+1)).drop tn).take ln)) L=cs at HSt HNx hsb
   obtain ⟨c1,m1⟩:=cs
   simp only at hsb
   obtain ⟨t1,t2,t3⟩:=hsb
   have HP:Hid (k+1+tn+ln<=ss.length/\fitB (ss.drop (k+1+tn+ln))=true/\codeB C.E C.en ss l=(pre++c1++(codeB C.E C.en (ss.drop (k+1+tn+ln)) m1).1,(codeB C.E C.en (ss.drop (k+1+tn+ln)) m1).2)/\l<=m1/\m1+2*szLs (ss.drop (k+1+tn+ln))<=l+2*Z/\(pre++c1).length+24*szLs (ss.drop (k+1+tn+ln))<=24*Z):=by
    have ed:(ss.drop (k+1)).drop (tn+ln)=ss.drop (k+1+tn+ln):=by rw [List.drop_drop];congr 1;omega
    rw [ed] at hpz f3
    refine ⟨hlln,f3,?_,by omega,by omega,?_⟩
    ·rw [HCd.out,HNx.out,ed,List.append_assoc]
    ·rw [l_a]
     try simp only at t1
     omega
   have x0:W2.drew.cell? ⟨wr.heap.size,0,none⟩=some (.int .i64 sk):=by show W2.cell? _=_;rw [hW2];simp
   have x1:W2.drew.cell? ⟨wr.heap.size,1,none⟩=some (.string nm):=by show W2.cell? _=_;rw [hW2];simp
   have x2:W2.drew.cell? ⟨wr.heap.size,2,none⟩=some (.slice ae e.length ce):=by show W2.cell? _=_;rw [hW2];simp
   have x3:W2.drew.cell? ⟨wr.heap.size,3,none⟩=some (.slice af f.length cf):=by show W2.cell? _=_;rw [hW2];simp
   have x4:W2.drew.cell? ⟨wr.heap.size,4,none⟩=some (.int .i64 (tn:Int)):=by show W2.cell? _=_;rw [hW2];simp
   have x5:W2.drew.cell? ⟨wr.heap.size,5,none⟩=some (.int .i64 (ln:Int)):=by show W2.cell? _=_;rw [hW2];simp
   have HWW:Hid (∀w',Wd C W2.drew (its++pre) c1 m1 w'->Wd C w its (pre++c1) m1 w'/\w'.cell? ⟨wr.heap.size,0,none⟩=some (.int .i64 sk)/\w'.cell? ⟨wr.heap.size,1,none⟩=some (.string nm)/\w'.cell? ⟨wr.heap.size,2,none⟩=some (.slice ae e.length ce)/\w'.cell? ⟨wr.heap.size,3,none⟩=some (.slice af f.length cf)/\w'.cell? ⟨wr.heap.size,4,none⟩=some (.int .i64 (tn:Int))/\w'.cell? ⟨wr.heap.size,5,none⟩=some (.int .i64 (ln:Int))):=fun w' h=>by
    have hp:=HW.out.gs.es.lt
    have a1:wr.heap.size≠C.P:=by omega
    have a2:some wr.heap.size≠rbq 6 W2.drew C.P:=fun h=>by
     rw [rbq_below hb3 hp] at h
     have:=HW.out.gs.es.rlt h.symm
     omega
    exact ⟨(HW.out.bel HC.out hb3).trans h,h.wq.cell a1 a2 x0,h.wq.cell a1 a2 x1,h.wq.cell a1 a2 x2,h.wq.cell a1 a2 x3,h.wq.cell a1 a2 x4,h.wq.cell a1 a2 x5⟩
   have hw2:IntKind.i64.wrap ((k:Int)+1)=(k:Int)+1:=by simp [IntKind.wrap,IntKind.bits,IntKind.signed];omega
   have hw3:IntKind.i64.wrap ((k:Int)+1+(tn:Int))=(k:Int)+1+(tn:Int):=by simp [IntKind.wrap,IntKind.bits,IntKind.signed];omega
   have hw6:IntKind.i64.wrap ((k:Int)+1+(tn:Int)+(ln:Int))=(k:Int)+1+(tn:Int)+(ln:Int):=by simp [IntKind.wrap,IntKind.bits,IntKind.signed];omega
   have HWx:=hide hW2
   clear hW2 hb2 hb3 HK5 HK6 HNx HCd hpz hs5 hs6 f1 f2 f3 hcb t1 t2 t3 p1 p2 p3 p4 hrl hle hlf HSk HNe HNf HG2 hL1 hL2 hL3
   go_wp2_with fail
   rw [<-HWx.out]
   clear d0 d1 d2 d3 d4 d5
   go_region_held3 (fun W=>W.cell? ⟨wr.heap.size,0,none⟩=some (.int .i64 sk)/\W.cell? ⟨wr.heap.size,1,none⟩=some (.string nm)/\W.cell? ⟨wr.heap.size,2,none⟩=some (.slice ae e.length ce)/\W.cell? ⟨wr.heap.size,3,none⟩=some (.slice af f.length cf)/\W.cell? ⟨wr.heap.size,4,none⟩=some (.int .i64 (tn:Int))/\W.cell? ⟨wr.heap.size,5,none⟩=some (.int .i64 (ln:Int))) (go_simp)
    (first | ((with_reducible refine Calls.mono HSt.out ?_);rintro x w4 ⟨⟨u4,rfl⟩,hw4⟩;obtain ⟨hw5,y0,y1,y2,y3,y4,y5⟩:=HWW.out _ hw4))
   have HR:=hide hw5
   clear hw4 hw5 x0 x1 x2 x3 x4 x5 y0 y1 y2 y3 HSt hr5 hr6
   go_wp2_with fail
   go_roundw
   case rel=>
    obtain ⟨z1,z2,z3,z4,z5,z6⟩:=HP.out
    exact ⟨k+1+tn+ln,pre++c1,m1,z1,by go_num,HR.out,z2,z3,z4,z5,z6⟩
   case measure=>simp [RowKit.intOf];omega
  ·obtain rfl:k=ss.length:=by omega
   have HE:Hid (codeB C.E C.en ss l=(pre,L)):=by
    show _=_
    rw [HCode.out,List.drop_length,codeB_nil]
    simp
   clear HCode
   go_wp2_with fail
   exact bodyPost_end (v:=.tuple #[]) (by simp [results,Tryz.results54,go_sem]) rfl ⟨⟨_,rfl⟩,by rw [HE.out];exact HW.out⟩
theorem blockS_any (C:GC) (hC:C.Ok) (n:Nat) : ∀(ss:List St) (v:Value),ss.length<=n->Stmts C.w0 v ss->fitB ss=true->(∀s∈ss,StOk s)->ss.length<=1000->BlkC C v (codeB C.E C.en ss) (szLs ss):=by
 induction n with
 | zero=>intro ss v hn hS hf ho hl;exact block_step C hC ss v hS hf ho hl (fun tt u ht=>by omega)
 | succ n ih=>intro ss v hn hS hf ho hl;exact block_step C hC ss v hS hf ho hl (fun tt u ht h1 h2 h3=>ih tt u (by omega) h1 h2 h3 (by omega))
end
section
open Go.RowKit
theorem parL_len : ∀j,(parL j).length=j
 | 0=>rfl
 | j+1=>by simp [parL,parL_len j]
theorem SRow.nms {B P:Nat} {w:World} {v:Value} {ns:List ByteArray} (h:SRow B w v ns) (hm:ns.length<=10000000) (hP:P<B) (hr : ∀k,rbq 6 w P=some k->k<B):NmS P w v ns:=by
 obtain ⟨a,c,e,h1,h2,h3⟩:=h.strs hm
 refine ⟨a,c,e,h1,h2,fun h0 => ?_⟩
 obtain ⟨b,off,ea,hc⟩:=h3 h0
 have hb:B<=b:=by
  have hl:v.ownBlock=some b:=by
   rw [e,ea]
   rfl
  exact (World.ownsRow.lt h b hl).1
 refine ⟨b,off,ea,by omega,fun he => ?_,hc⟩
 have:=hr b he.symm
 omega
theorem funS_any (t:Tr) (w0:World) (P:Nat) (vg vf vn:Value) (fr en:Int) (hP:w0.heap.size<=P) (hg:Globs w0 vg t.globals) (hf:Funcs w0 vf t.funcs) (hgl:t.globals.length<=50) (hgz : ∀g∈t.globals,0<=g.size/\g.size<=4000) (hfl:t.funcs.length<=50) (i:Nat) (hi:i<t.funcs.length) (hfo:FrOk t.funcs[i]) (hst : ∀s∈t.funcs[i].body,StOk s) (hfit:fitB t.funcs[i].body=true) (hfz:0<=frameSz t.funcs[i]/\frameSz t.funcs[i]<=1000000) (hpl:t.funcs[i].params.length<=6) (hb5:t.funcs[i].body.length<=500)
  (w:World) (its:List It) (l:Int) (hO:Es P w its vg vf vn fr en l) (hB:Below w0.heap.size w0 w) (hl0:0<=l) (hl2:l+2*(szLs t.funcs[i].body+1)<=90000000) (hil:its.length+24*(szLs t.funcs[i].body+1)<=7000000) :
  Calls Tryz.prog 28 #[.pointer (some ⟨P,0,none⟩),.int .i64 (i:Int)] w fun x w'=>(∃u,x = .returned u)/\(∃vn' fr' en',Es P w' (its++(codeF t i t.funcs[i] l).1) vg vf vn' fr' en' (codeF t i t.funcs[i] l).2)/\Below w0.heap.size w0 w':=by
 have HO:Hid (Es P w its vg vf vn fr en l):=hO
 have HB:Hid (Bl w0 w):=hB
 have HGb:Hid (Globs w0 vg t.globals):=hg
 have HFu:Hid (Funcs w0 vf t.funcs):=hf
 obtain ⟨ag,cg,rfl,-⟩:=hg
 obtain ⟨af,cf,rfl,hf1,hf2,hfc⟩:=hf
 obtain ⟨b,off,rfl,hcell⟩:=hfc (by omega)
 obtain ⟨vp,vb,⟨c0,c1,c2⟩,hvp,hvb⟩:=hcell i hi
 have hlb:=World.block_lt_of_cell? _ _ c0
 have d0:=(hB.cell (p:=⟨b,off+i*3,none⟩) hlb).trans c0
 have d1:=(hB.cell (p:=⟨b,off+i*3+1,none⟩) hlb).trans c1
 have d2:=(hB.cell (p:=⟨b,off+i*3+2,none⟩) hlb).trans c2
 have p1:w.cell? ⟨P,1,none⟩=some (.slice (some ⟨b,off,none⟩) t.funcs.length cf):=hO.oth 1 (by decide) (by decide)
 have HVp:Hid (Strs w0 vp t.funcs[i].params):=hvp
 have HVb:Hid (Stmts w0 vb t.funcs[i].body):=hvb
 obtain ⟨ap,cp,rfl,-⟩:=hvp
 obtain ⟨ab,cb,rfl,-⟩:=hvb
 have HFo:Hid (FrOk t.funcs[i]):=hfo
 have HSt:Hid (∀s∈t.funcs[i].body,StOk s):=hst
 have HFit:Hid (fitB t.funcs[i].body=true):=hfit
 have HGz:Hid (∀g∈t.globals,0<=g.size/\g.size<=4000):=hgz
 have hbl:=hfo.bl
 have hlt:=hO.lt
 have HRl:Hid (∀k,rbq 6 w P=some k->P<k/\k<w.heap.size):=fun k hk=>hO.rlt hk
 have HEnv:Hid (envF t t.funcs[i]=envG t.globals t.funcs (t.funcs[i].params++declN t.funcs[i].body)):=rfl
 have hnl:(t.funcs[i].params++declN t.funcs[i].body).length<=1000:=by
  have h1:=declN_len t.funcs[i].body
  simp only [l_a]
  omega
 obtain ⟨R,hR⟩ : ∃R,R=codeF t i t.funcs[i] l:=⟨_,rfl⟩
 rw [<-hR]
 have HR:Hid (R=codeF t i t.funcs[i] l):=hR
 have HCf:Hid (codeF t i t.funcs[i] l=([markI 2 i,insI 12 2 2 0 (-frameSz t.funcs[i]),insI 11 0 2 1 (frameSz t.funcs[i]-4)]++parL t.funcs[i].params.length++(codeB (envF t t.funcs[i]) l t.funcs[i].body (l+1)).1++[insI 12 10 0 0 0,markI 2 l,insI 10 1 2 0 (frameSz t.funcs[i]-4),insI 12 2 2 0 (frameSz t.funcs[i]),insI 3 0 1 0 0],(codeB (envF t t.funcs[i]) l t.funcs[i].body (l+1)).2)):=rfl
 clear hR hO hB hfc hcell c0 c1 c2 hfo hst hfit hgz
 generalize t.funcs[i]=f at *
 obtain ⟨W2,hW2⟩ : ∃W2,W2=w.alloc (.cells #[.string f.name,.slice ap f.params.length cp,.slice ab f.body.length cb] 86):=⟨_,rfl⟩
 have hb2:Bl w W2:=by rw [hW2];exact (Below.refl _ _).alloc (Nat.le_refl _) _
 have hs2:W2.heap.size=w.heap.size+1:=by rw [hW2];simp
 have e0:W2.cell? ⟨w.heap.size,0,none⟩=some (.string f.name):=by rw [hW2];simp
 have e1:W2.cell? ⟨w.heap.size,1,none⟩=some (.slice ap f.params.length cp):=by rw [hW2];simp
 have e2:W2.cell? ⟨w.heap.size,2,none⟩=some (.slice ab f.body.length cb):=by rw [hW2];simp
 have HW2:Hid (W2=_):=hW2
 have HLy:Hid (Calls Tryz.prog 51 #[.agg #[.string f.name,.slice ap f.params.length cp,.slice ab f.body.length cb]] W2 fun e w'=>∃a c,e = .returned (.tuple #[.slice a (f.params++declN f.body).length c,.int .i64 (places f.body)])/\Bl W2 w'/\SRow (W2.heap.size+1) w' (.slice a (f.params++declN f.body).length c) (f.params++declN f.body)):=layout_row f _ _ W2 HFo.out (HVp.out.below (HB.out.trans (hb2.mono HB.out.size))) (HVb.out.below (HB.out.trans (hb2.mono HB.out.size)))
 have HNS0 : ∃NS,f.params++declN f.body=NS:=⟨_,rfl⟩
 obtain ⟨NS,hNS⟩:=HNS0
 rw [hNS] at HLy hnl
 have HNS:Hid (f.params++declN f.body=NS):=hNS
 clear hW2 hNS
 go_enter Tryz.func28,Tryz.ntmps28
 go_wp2_with fail
 rw [<-HW2.out]
 refine HLy.out.mono ?_
 rintro x w3 ⟨an,cn,rfl,hb3,hsr⟩
 have HSr:Hid (SRow (W2.heap.size+1) w3 (.slice an NS.length cn) NS):=hsr
 have HOb:Hid (Es P w3 its (.slice ag t.globals.length cg) (.slice (some ⟨b,off,none⟩) t.funcs.length cf) vn fr en l):=(HO.out.below hb2).below hb3
 have hbw:Bl w w3:=hb2.trans (hb3.mono (by omega))
 have hs3:w.heap.size+1<=w3.heap.size:=by have:=hb3.size;omega
 have HNm3:Hid (NmS P w3 (.slice an NS.length cn) NS):=HSr.out.nms (by omega) (by omega) (fun k hk=>by
  rw [rbq_below hbw hlt] at hk
  have:=HRl.out k hk
  omega)
 have HCl:Hid (∀w',Wq 6 P W2 w'->(w'.cell? ⟨w.heap.size,0,none⟩=some (.string f.name))/\(w'.cell? ⟨w.heap.size,1,none⟩=some (.slice ap f.params.length cp))/\(w'.cell? ⟨w.heap.size,2,none⟩=some (.slice ab f.body.length cb))):=fun w' h=>by
  have a1:w.heap.size≠P:=by omega
  have a2:some w.heap.size≠rbq 6 W2 P:=fun h=>by
   rw [rbq_below hb2 hlt] at h
   have:=HRl.out _ h.symm
   omega
  exact ⟨h.cell a1 a2 e0,h.cell a1 a2 e1,h.cell a1 a2 e2⟩
 have HWq3:Hid (Wq 6 P W2 w3):=Wq.below (by omega) hb3
 have p2:w3.cell? ⟨P,2,none⟩=some vn:=HOb.out.oth 2 (by decide) (by decide)
 have f2:w3.frozen? ⟨P,2,none⟩=false:=HOb.out.fz 2
 have HE4:Hid (Em 31 6 7 P (w3.setCell ⟨P,2,none⟩ (.slice an NS.length cn)) its _/\Wq 6 P w3 (w3.setCell ⟨P,2,none⟩ (.slice an NS.length cn))):=em_set HOb.out 2 (by decide) (by decide) (.slice an NS.length cn)
 obtain ⟨W4,hW4⟩ : ∃W4,W4=w3.setCell ⟨P,2,none⟩ (.slice an NS.length cn):=⟨_,rfl⟩
 have HES4:Hid (Es P W4 its (.slice ag t.globals.length cg) (.slice (some ⟨b,off,none⟩) t.funcs.length cf) (.slice an NS.length cn) fr en l):=by
  show Em _ _ _ _ _ _ _
  rw [hW4]
  refine HE4.out.1.congr fun o ho hq => ?_
  have:o=0∨o=1∨o=2∨o=3∨o=4∨o=5:=by omega
  rcases this with rfl | rfl | rfl | rfl | rfl | rfl <;> rfl
 have HWq4:Hid (Wq 6 P W2 W4):=by show Wq _ _ _ _;rw [hW4];exact HWq3.out.trans HE4.out.2
 have HNm4:Hid (NmS P W4 (.slice an NS.length cn) NS):=by show NmS _ _ _ _;rw [hW4];exact HNm3.out.wq HE4.out.2
 have hB4:Bl w0 W4:=by rw [hW4];exact (HB.out.trans (hbw.mono HB.out.size)).setCell hP _
 have HFrm:Hid (Calls Tryz.prog 52 #[.agg #[.string f.name,.slice ap f.params.length cp,.slice ab f.body.length cb]] W4 fun e w'=>e = .returned (.int .i64 (frameSz f))/\Bl W4 w'):=frameG_any f _ _ W4 HFo.out (HVp.out.below hB4) (HVb.out.below hB4)
 have HW4:Hid (W4=_):=hW4
 obtain ⟨x0,x1,x2⟩:=HCl.out W4 HWq4.out
 rw [hW4] at x0 x1 x2
 obtain ⟨FZq,hFS⟩ : ∃FZq,FZq=frameSz f:=⟨_,rfl⟩
 rw [<-hFS] at HFrm hfz HCf
 clear hW4 hsr HLy d0 d1 d2 p1 e0 e1 e2 hFS
 go_wp2_with fail
 rw [<-HW4.out]
 clear p2 f2 x0 x1 x2
 refine HFrm.out.mono ?_
 rintro x w5 ⟨rfl,hb5'⟩
 have HES5:Hid (Es P w5 its (.slice ag t.globals.length cg) (.slice (some ⟨b,off,none⟩) t.funcs.length cf) (.slice an NS.length cn) fr en l):=HES4.out.below hb5'
 have HWq5:Hid (Wq 6 P W2 w5):=HWq4.out.trans (Wq.below HES4.out.lt hb5')
 have HNm5:Hid (NmS P w5 (.slice an NS.length cn) NS):=HNm4.out.wq (Wq.below HES4.out.lt hb5')
 have hB5:Bl w0 w5:=hB4.trans (hb5'.mono hB4.size)
 have p3:w5.cell? ⟨P,3,none⟩=some (.int .i64 fr):=HES5.out.oth 3 (by decide) (by decide)
 have f3:w5.frozen? ⟨P,3,none⟩=false:=HES5.out.fz 3
 have HE6:Hid (Em 31 6 7 P (w5.setCell ⟨P,3,none⟩ (.int .i64 FZq)) its _/\Wq 6 P w5 (w5.setCell ⟨P,3,none⟩ (.int .i64 FZq))):=em_set HES5.out 3 (by decide) (by decide) (.int .i64 FZq)
 obtain ⟨W6,hW6⟩ : ∃W6,W6=w5.setCell ⟨P,3,none⟩ (.int .i64 FZq):=⟨_,rfl⟩
 have HES6:Hid (Es P W6 its (.slice ag t.globals.length cg) (.slice (some ⟨b,off,none⟩) t.funcs.length cf) (.slice an NS.length cn) FZq en l):=by
  show Em _ _ _ _ _ _ _
  rw [hW6]
  refine HE6.out.1.congr fun o ho hq => ?_
  have:o=0∨o=1∨o=2∨o=3∨o=4∨o=5:=by omega
  rcases this with rfl | rfl | rfl | rfl | rfl | rfl <;> rfl
 have HWq6:Hid (Wq 6 P W2 W6):=by show Wq _ _ _ _;rw [hW6];exact HWq5.out.trans HE6.out.2
 have HNm6:Hid (NmS P W6 (.slice an NS.length cn) NS):=by show NmS _ _ _ _;rw [hW6];exact HNm5.out.wq HE6.out.2
 have hB6:Bl w0 W6:=by rw [hW6];exact hB5.setCell hP _
 have HLb:Hid (Calls Tryz.prog 53 #[.pointer (some ⟨P,0,none⟩)] W6 fun e w'=>e = .returned (.int .i64 l)/\Es P w' its (.slice ag t.globals.length cg) (.slice (some ⟨b,off,none⟩) t.funcs.length cf) (.slice an NS.length cn) FZq en (l+1)/\Wq 6 P W6 w'):=labG P its _ _ _ _ _ l W6 HES6.out (by omega)
 have HW6:Hid (W6=_):=hW6
 clear hW6 hb5' hB4 HFrm
 go_wp2_with fail
 rw [<-HW6.out]
 clear p3 f3
 refine HLb.out.mono ?_
 rintro x w7 ⟨rfl,hes7,hwq7⟩
 have HES7:Hid (Es P w7 its (.slice ag t.globals.length cg) (.slice (some ⟨b,off,none⟩) t.funcs.length cf) (.slice an NS.length cn) FZq en (l+1)):=hes7
 have p4:w7.cell? ⟨P,4,none⟩=some (.int .i64 en):=HES7.out.oth 4 (by decide) (by decide)
 have f4:w7.frozen? ⟨P,4,none⟩=false:=HES7.out.fz 4
 have HE8:Hid (Em 31 6 7 P (w7.setCell ⟨P,4,none⟩ (.int .i64 l)) its _/\Wq 6 P w7 (w7.setCell ⟨P,4,none⟩ (.int .i64 l))):=em_set HES7.out 4 (by decide) (by decide) (.int .i64 l)
 obtain ⟨W8,hW8⟩ : ∃W8,W8=w7.setCell ⟨P,4,none⟩ (.int .i64 l):=⟨_,rfl⟩
 have HES8:Hid (Es P W8 its (.slice ag t.globals.length cg) (.slice (some ⟨b,off,none⟩) t.funcs.length cf) (.slice an NS.length cn) FZq l (l+1)):=by
  show Em _ _ _ _ _ _ _
  rw [hW8]
  refine HE8.out.1.congr fun o ho hq => ?_
  have:o=0∨o=1∨o=2∨o=3∨o=4∨o=5:=by omega
  rcases this with rfl | rfl | rfl | rfl | rfl | rfl <;> rfl
 have HWq68:Hid (Wq 6 P W6 W8):=by show Wq _ _ _ _;rw [hW8];exact hwq7.trans HE8.out.2
 have HWq8:Hid (Wq 6 P W2 W8):=HWq6.out.trans HWq68.out
 have HNm8:Hid (NmS P W8 (.slice an NS.length cn) NS):=HNm6.out.wq HWq68.out
 obtain ⟨C,hCe⟩ : ∃C:GC,C=⟨w0,P,.slice ag t.globals.length cg,.slice (some ⟨b,off,none⟩) t.funcs.length cf,.slice an NS.length cn,t.globals,t.funcs,NS,FZq,l⟩:=⟨_,rfl⟩
 have HCP:Hid (C.P=P):=by show _=_;rw [hCe]
 have HC:Hid C.Ok:=by
  show C.Ok
  rw [hCe]
  exact ⟨hP,HGb.out,HFu.out,hgl,HGz.out,hfl,hnl⟩
 have HCw:Hid (C.w0=w0):=by show _=_;rw [hCe]
 have HCE:Hid (C.E=envF t f):=by show _=_;rw [hCe];show envG t.globals t.funcs NS=_;rw [<-HNS.out];rfl
 have HCen:Hid (C.en=l):=by show _=_;rw [hCe]
 have HG6:Hid (Gs C W6 its l->True):=fun _=>trivial
 have HG2:Hid (Gs C W8 its (l+1)):=by
  show Gs _ _ _ _
  rw [hCe]
  refine ⟨HES8.out,?_,HNm8.out⟩
  refine hB6.trans ⟨HWq68.out.still.1,HWq68.out.still.2.1,HWq68.out.still.2.2,HWq68.out.size,fun k hk => ?_⟩
  refine HWq68.out.block k (by have:=hB6.size;omega) (by show k≠P;omega) (fun e => ?_)
  have:=HES6.out.rlt e.symm
  omega
 have HBk:Hid (BlkC C (.slice ab f.body.length cb) (codeB (envF t f) l f.body) (szLs f.body)):=by
  have h:=blockS_any C HC.out f.body.length f.body (.slice ab f.body.length cb) (Nat.le_refl _) (by rw [HCw.out];exact HVb.out) HFit.out HSt.out (by omega)
  rw [HCE.out,HCen.out] at h
  exact h
 obtain ⟨t1,t2,t3⟩:=HBk.out.1 (l+1)
 obtain ⟨cb_,mb_,hcm⟩ : ∃c m,codeB (envF t f) l f.body (l+1)=(c,m):=⟨_,_,rfl⟩
 rw [hcm] at t1 t2 t3 HCf
 simp only at t1 t2 t3 HCf
 have HBlk:Hid (∀(W:World) (its':List It),Gs C W its' (l+1)->its'.length+24*szLs f.body<=8000000->Calls Tryz.prog 54 #[.pointer (some ⟨C.P,0,none⟩),.slice ab f.body.length cb] W fun x w'=>(∃u,x = .returned u)/\Wd C W its' cb_ mb_ w'):=fun W its' hg hln=>by
  have:=HBk.out.2 W its' (l+1) hg (by omega) (by omega) hln
  rw [hcm] at this
  exact this
 have HFin:Hid (∀new l' w',Wd C W8 its new l' w'->(∃vn' fr' en',Es P w' (its++new) (.slice ag t.globals.length cg) (.slice (some ⟨b,off,none⟩) t.funcs.length cf) vn' fr' en' l')/\Bl w0 w'):=fun new l' w' h=>by
  have h1:=h.gs.es
  have h2:=h.gs.bel
  rw [hCe] at h1 h2
  exact ⟨⟨_,_,_,h1⟩,h2⟩
 have HFr:Hid (C.fr=FZq):=by show _=_;rw [hCe]
 have HW8:Hid (W8=_):=hW8
 clear hW8 hes7 hwq7 HLb hCe hcm hB5 hB6
 have hCP:=HCP.out
 subst hCP
 have k1:IntKind.i64.wrap (-FZq) = -FZq:=by simp [IntKind.wrap,IntKind.bits,IntKind.signed];omega
 have k2:IntKind.i64.wrap (FZq-4)=FZq-4:=by simp [IntKind.wrap,IntKind.bits,IntKind.signed];omega
 have hFrr:=HFr.out
 go_wp2_with fail
 rw [<-HW8.out]
 clear p4 f4
 refine (markC C HC.out W8 its (l+1) HG2.out 2 (i:Int) (by (try simp only [l_a,l_c,l_n]);omega)).mono ?_
 rintro x w_1 ⟨⟨u_1,rfl⟩,hw_1⟩
 have HW_1:Hid (Wd C W8 its ([markI 2 (i:Int)]) (l+1) w_1):=hw_1
 clear hw_1
 try clear p3
 have p3:w_1.cell? ⟨C.P,3,none⟩=some (.int .i64 C.fr):=HW_1.out.gs.es.oth 3 (by decide) (by decide)
 rw [HFr.out] at p3
 go_wp2_with fail
 refine (putC C HC.out w_1 (its++([markI 2 (i:Int)])) (l+1) HW_1.out.gs 12 2 2 0 (-FZq) (by (try simp only [l_a,l_c,l_n]);omega)).mono ?_
 rintro x w_2 ⟨⟨u_2,rfl⟩,hw_2⟩
 have HW_2:Hid (Wd C W8 its ([markI 2 (i:Int)]++[insI 12 2 2 0 (-FZq)]) (l+1) w_2):=HW_1.out.trans hw_2
 clear hw_2
 try clear p3
 have p3:w_2.cell? ⟨C.P,3,none⟩=some (.int .i64 C.fr):=HW_2.out.gs.es.oth 3 (by decide) (by decide)
 rw [HFr.out] at p3
 go_wp2_with fail
 refine (putC C HC.out w_2 (its++([markI 2 (i:Int)]++[insI 12 2 2 0 (-FZq)])) (l+1) HW_2.out.gs 11 0 2 1 (FZq-4) (by (try simp only [l_a,l_c,l_n]);omega)).mono ?_
 rintro x w_3 ⟨⟨u_3,rfl⟩,hw_3⟩
 have HW_3:Hid (Wd C W8 its ([markI 2 (i:Int)]++[insI 12 2 2 0 (-FZq)]++[insI 11 0 2 1 (FZq-4)]) (l+1) w_3):=HW_2.out.trans hw_3
 clear hw_3
 try clear p3
 have e1:=(HCl.out w_3 (HWq8.out.trans HW_3.out.wq)).2.1
 go_wp2_with fail
 clear e1
 go_loopw [8] (fun i_ wr=>∃j:Nat,j<=f.params.length/\i_ = .int .i64 j/\Wd C W8 its ([markI 2 (i:Int)]++[insI 12 2 2 0 (-FZq)]++[insI 11 0 2 1 (FZq-4)]++parL j) (l+1) wr) (fun i_ _=>f.params.length-(RowKit.intOf i_).toNat)
 case atStart=>exact ⟨0,Nat.zero_le _,rfl,by rw [show parL 0 = [] from rfl,List.append_nil];exact HW_3.out⟩
 case round=>
  clear HW_3 HW_2 HW_1
  obtain ⟨j,hj,rfl,hW⟩:=hrel
  have HW:Hid (Wd C W8 its ([markI 2 (i:Int)]++[insI 12 2 2 0 (-FZq)]++[insI 11 0 2 1 (FZq-4)]++parL j) (l+1) wr):=hW
  clear hW
  have hpj:=parL_len j
  have e1:=(HCl.out wr (HWq8.out.trans HW.out.wq)).2.1
  by_cases hlj:j<f.params.length
  ·have k3:IntKind.i64.wrap (10+(j:Int))=10+(j:Int):=by simp [IntKind.wrap,IntKind.bits,IntKind.signed];omega
   have k4:IntKind.i64.wrap (4*(j:Int))=4*(j:Int):=by simp [IntKind.wrap,IntKind.bits,IntKind.signed];omega
   go_wp2_with fail
   refine (putC C HC.out wr _ _ HW.out.gs 11 0 2 (10+(j:Int)) (4*(j:Int)) (by simp only [l_a,l_c,l_n];omega)).mono ?_
   rintro x w9 ⟨⟨u9,rfl⟩,hw9⟩
   have HRj:Hid (Wd C W8 its ([markI 2 (i:Int)]++[insI 12 2 2 0 (-FZq)]++[insI 11 0 2 1 (FZq-4)]++parL (j+1)) (l+1) w9):=by
    have h:=HW.out.trans hw9
    rw [List.append_assoc] at h
    exact h
   clear hw9 HW e1
   go_wp2_with fail
   go_roundw
   case rel=>exact ⟨j+1,by omega,by go_num,HRj.out⟩
   case measure=>simp [RowKit.intOf];omega
  ·obtain rfl:j=f.params.length:=by omega
   have HW_4:Hid (Wd C W8 its ([markI 2 (i:Int)]++[insI 12 2 2 0 (-FZq)]++[insI 11 0 2 1 (FZq-4)]++parL f.params.length) (l+1) wr):=HW.out
   clear HW
   have e2:=(HCl.out wr (HWq8.out.trans HW_4.out.wq)).2.2
   go_wp2_with fail
   refine (HBlk.out wr (its++([markI 2 (i:Int)]++[insI 12 2 2 0 (-FZq)]++[insI 11 0 2 1 (FZq-4)]++parL f.params.length)) HW_4.out.gs (by have r_1:=parL_len f.params.length;(try simp only [l_a,l_c,l_n]);omega)).mono ?_
   rintro x w_5 ⟨⟨u_5,rfl⟩,hw_5⟩
   have HW_5:Hid (Wd C W8 its ([markI 2 (i:Int)]++[insI 12 2 2 0 (-FZq)]++[insI 11 0 2 1 (FZq-4)]++parL f.params.length++cb_) (mb_) w_5):=HW_4.out.trans hw_5
   clear hw_5
   try clear p3
   clear e2
   go_wp2_with fail
   refine (putC C HC.out w_5 (its++([markI 2 (i:Int)]++[insI 12 2 2 0 (-FZq)]++[insI 11 0 2 1 (FZq-4)]++parL f.params.length++cb_)) (mb_) HW_5.out.gs 12 10 0 0 0 (by have r_1:=parL_len f.params.length;(try simp only [l_a,l_c,l_n]);omega)).mono ?_
   rintro x w_6 ⟨⟨u_6,rfl⟩,hw_6⟩
   have HW_6:Hid (Wd C W8 its ([markI 2 (i:Int)]++[insI 12 2 2 0 (-FZq)]++[insI 11 0 2 1 (FZq-4)]++parL f.params.length++cb_++[insI 12 10 0 0 0]) (mb_) w_6):=HW_5.out.trans hw_6
   clear hw_6
   try clear p3
   go_wp2_with fail
   refine (markC C HC.out w_6 (its++([markI 2 (i:Int)]++[insI 12 2 2 0 (-FZq)]++[insI 11 0 2 1 (FZq-4)]++parL f.params.length++cb_++[insI 12 10 0 0 0])) (mb_) HW_6.out.gs 2 l (by have r_1:=parL_len f.params.length;(try simp only [l_a,l_c,l_n]);omega)).mono ?_
   rintro x w_7 ⟨⟨u_7,rfl⟩,hw_7⟩
   have HW_7:Hid (Wd C W8 its ([markI 2 (i:Int)]++[insI 12 2 2 0 (-FZq)]++[insI 11 0 2 1 (FZq-4)]++parL f.params.length++cb_++[insI 12 10 0 0 0]++[markI 2 l]) (mb_) w_7):=HW_6.out.trans hw_7
   clear hw_7
   try clear p3
   have p3:w_7.cell? ⟨C.P,3,none⟩=some (.int .i64 C.fr):=HW_7.out.gs.es.oth 3 (by decide) (by decide)
   rw [HFr.out] at p3
   go_wp2_with fail
   refine (putC C HC.out w_7 (its++([markI 2 (i:Int)]++[insI 12 2 2 0 (-FZq)]++[insI 11 0 2 1 (FZq-4)]++parL f.params.length++cb_++[insI 12 10 0 0 0]++[markI 2 l])) (mb_) HW_7.out.gs 10 1 2 0 (FZq-4) (by have r_1:=parL_len f.params.length;(try simp only [l_a,l_c,l_n]);omega)).mono ?_
   rintro x w_8 ⟨⟨u_8,rfl⟩,hw_8⟩
   have HW_8:Hid (Wd C W8 its ([markI 2 (i:Int)]++[insI 12 2 2 0 (-FZq)]++[insI 11 0 2 1 (FZq-4)]++parL f.params.length++cb_++[insI 12 10 0 0 0]++[markI 2 l]++[insI 10 1 2 0 (FZq-4)]) (mb_) w_8):=HW_7.out.trans hw_8
   clear hw_8
   try clear p3
   have p3:w_8.cell? ⟨C.P,3,none⟩=some (.int .i64 C.fr):=HW_8.out.gs.es.oth 3 (by decide) (by decide)
   rw [HFr.out] at p3
   go_wp2_with fail
   refine (putC C HC.out w_8 (its++([markI 2 (i:Int)]++[insI 12 2 2 0 (-FZq)]++[insI 11 0 2 1 (FZq-4)]++parL f.params.length++cb_++[insI 12 10 0 0 0]++[markI 2 l]++[insI 10 1 2 0 (FZq-4)])) (mb_) HW_8.out.gs 12 2 2 0 FZq (by have r_1:=parL_len f.params.length;(try simp only [l_a,l_c,l_n]);omega)).mono ?_
   rintro x w_9 ⟨⟨u_9,rfl⟩,hw_9⟩
   have HW_9:Hid (Wd C W8 its ([markI 2 (i:Int)]++[insI 12 2 2 0 (-FZq)]++[insI 11 0 2 1 (FZq-4)]++parL f.params.length++cb_++[insI 12 10 0 0 0]++[markI 2 l]++[insI 10 1 2 0 (FZq-4)]++[insI 12 2 2 0 FZq]) (mb_) w_9):=HW_8.out.trans hw_9
   clear hw_9
   try clear p3
   go_wp2_with fail
   refine (putC C HC.out w_9 (its++([markI 2 (i:Int)]++[insI 12 2 2 0 (-FZq)]++[insI 11 0 2 1 (FZq-4)]++parL f.params.length++cb_++[insI 12 10 0 0 0]++[markI 2 l]++[insI 10 1 2 0 (FZq-4)]++[insI 12 2 2 0 FZq])) (mb_) HW_9.out.gs 3 0 1 0 0 (by have r_1:=parL_len f.params.length;(try simp only [l_a,l_c,l_n]);omega)).mono ?_
   rintro x w_10 ⟨⟨u_10,rfl⟩,hw_10⟩
   have HW_10:Hid (Wd C W8 its ([markI 2 (i:Int)]++[insI 12 2 2 0 (-FZq)]++[insI 11 0 2 1 (FZq-4)]++parL f.params.length++cb_++[insI 12 10 0 0 0]++[markI 2 l]++[insI 10 1 2 0 (FZq-4)]++[insI 12 2 2 0 FZq]++[insI 3 0 1 0 0]) (mb_) w_10):=HW_9.out.trans hw_10
   clear hw_10
   try clear p3
   go_wp2_with fail
   refine bodyPost_end (v:=.tuple #[]) (by simp [results,Tryz.results28,go_sem]) rfl ⟨⟨_,rfl⟩,?_⟩
   have HZ:=HFin.out _ _ _ HW_10.out
   rw [HR.out,HCf.out]
   simp only [List.append_assoc,List.cons_append,List.nil_append] at HZ ⊢
   exact HZ
end
end Go.Proofs.YtpdndlghjldhjaaGreat
