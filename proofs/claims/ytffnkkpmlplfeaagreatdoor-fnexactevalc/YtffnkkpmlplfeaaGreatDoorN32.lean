import Derived.Test.YtffnkkpmlplfeaaGreatDoorN11
import Derived.Test.YtffnkkpmlplfeaaGreatDoorN31
namespace Go.Proofs.YtffnkkpmlplfeaaGreatDoor
open Go.Proofs.Tryz
open Go.RowKit
set_option linter.all false
set_option maxRecDepth 100000
set_option maxHeartbeats 16000000
variable[Inhabited Pick]
def useF (o:Option Int) (arr:Bool):Int:=match o with|none=>4|some z=>if decide (z>0)=arr then 0 else 5
theorem useK_any (C B:Nat) (bs:List Nat) (fl:List (ByteArray->Option Int)) (v:Value) (s:ByteArray) (arr:Bool) (fn st:Int) (w:World) (hl:fl.length=bs.length) (hlen:bs.length<=1000000) (hp:0<bs.length) (hs:s.size<=maxLen)
  (hc:w.cell? ⟨C,0,none⟩=some v) (h5:w.cell? ⟨C,5,none⟩=some (.int .i64 fn)) (h6:w.cell? ⟨C,6,none⟩=some (.int .i64 st)) (hR:BRw B w v bs) (hM : ∀j,j<bs.length->∃nn D,w.ownsMap prog 9 (plainElem (H:=Unit) prog 2) (bs[j]?.getD 0) nn D/\MapIs D (fl.getD j noF)) :
  Calls prog 215 #[.pointer (some ⟨C,0,none⟩),.string s,.bool arr] w λe w'=>e=.returned (errV (useF (findS fl s) arr) fn st)/\Below w.heap.size w w':=by
 have hCl:C<w.heap.size:=b_ hc;have HFi:=hide (findK_any C B bs fl v s w hl hlen hp hs hc hR hM);cases hfi:findS fl s with
 | none=>
  rw[hfi] at HFi;go_enter func215,ntmps215;go_wp2_with fail;refine HFi.o.mono ?_;rintro e w1 ⟨rfl,hb1⟩;have c5:=(hb1.cell (p:=⟨C,5,none⟩) hCl).trans h5;have c6:=(hb1.cell (p:=⟨C,6,none⟩) hCl).trans h6;go_wp2_with fail;refine (fault_any C 4 fn st _ c5 c6).mono ?_;rintro e w2 ⟨rfl,hw⟩;rw[hw];go_wp2;go_ret;exact⟨ret_val rfl,hb1⟩
 | some z=>
  rw[hfi] at HFi;by_cases hz:z>0
  ·cases arr
   ·go_enter func215,ntmps215;go_wp2_with fail;refine HFi.o.mono ?_;rintro e w1 ⟨rfl,hb1⟩;have c5:=(hb1.cell (p:=⟨C,5,none⟩) hCl).trans h5;have c6:=(hb1.cell (p:=⟨C,6,none⟩) hCl).trans h6;have HE:Hid (useF (some z) false=5):=by show _=_;unfold useF;simp[hz]
    go_wp2_with fail;refine (fault_any C 5 fn st _ c5 c6).mono ?_;rintro e w2 ⟨rfl,hw⟩;rw[hw];go_wp2;go_ret;exact⟨ret_val (by rw[HE.o];rfl),hb1⟩
   ·go_enter func215,ntmps215;go_wp2_with fail;refine HFi.o.mono ?_;rintro e w1 ⟨rfl,hb1⟩;have HE:Hid (useF (some z) true=0):=by show _=_;unfold useF;simp[hz]
    go_wp2;go_ret;exact⟨ret_val (by rw[HE.o];rfl),hb1⟩
  ·cases arr
   ·go_enter func215,ntmps215;go_wp2_with fail;refine HFi.o.mono ?_;rintro e w1 ⟨rfl,hb1⟩;have HE:Hid (useF (some z) false=0):=by show _=_;unfold useF;simp[hz]
    go_wp2;go_ret;exact⟨ret_val (by rw[HE.o];rfl),hb1⟩
   ·go_enter func215,ntmps215;go_wp2_with fail;refine HFi.o.mono ?_;rintro e w1 ⟨rfl,hb1⟩;have c5:=(hb1.cell (p:=⟨C,5,none⟩) hCl).trans h5;have c6:=(hb1.cell (p:=⟨C,6,none⟩) hCl).trans h6;have HE:Hid (useF (some z) true=5):=by show _=_;unfold useF;simp[hz]
    have hz1:z<=0:=by omega
    have hz2:decide (0<z)=false:=by simp;omega
    have hz3:decide (z>0)=false:=by simp;omega
    go_wp2_with fail;refine (fault_any C 5 fn st _ c5 c6).mono ?_;rintro e w2 ⟨rfl,hw⟩;rw[hw];go_wp2;go_ret;exact⟨ret_val (by rw[HE.o];rfl),hb1⟩
section
variable {w:World} {C B bn nn:Nat} {D:DataW Unit} {t:Tr} {bsn:List (List ByteArray)} {bs:List Nat} {v vf:Value} {fn st:Int}
structure Ck (w:World) (C B bn nn:Nat) (D:DataW Unit) (t:Tr) (bsn:List (List ByteArray)) (bs:List Nat) (v vf:Value) (fn st:Int):Prop where
 c0:w.cell? ⟨C,0,none⟩=some v
 c2:w.cell? ⟨C,2,none⟩=some vf
 c3:w.cell? ⟨C,3,none⟩=some (.map (some bn))
 c5:w.cell? ⟨C,5,none⟩=some (.int .i64 fn)
 c6:w.cell? ⟨C,6,none⟩=some (.int .i64 st)
 row:BRw B w v bs
 len:(scopesF t.globals bsn).length=bs.length
 small:bs.length<=1000000
 maps : ∀j,j<bs.length->∃nn D,w.ownsMap prog 9 (plainElem (H:=Unit) prog 2) (bs[j]?.getD 0) nn D/\MapIs D ((scopesF t.globals bsn).getD j noF)
 own:w.ownsMap prog 9 (plainElem (H:=Unit) prog 2) bn nn D
 num:NumIs D t.funcs
 funcs:Funcs w vf t.funcs
theorem Ck.below {w':World} (h:Ck w C B bn nn D t bsn bs v vf fn st) (hb:Below w.heap.size w w'):Ck w' C B bn nn D t bsn bs v vf fn st:=by
 have hC:C<w.heap.size:=b_ h.c0;refine⟨(hb.cell (p:=⟨C,0,none⟩) hC).trans h.c0,(hb.cell (p:=⟨C,2,none⟩) hC).trans h.c2,(hb.cell (p:=⟨C,3,none⟩) hC).trans h.c3,(hb.cell (p:=⟨C,5,none⟩) hC).trans h.c5,(hb.cell (p:=⟨C,6,none⟩) hC).trans h.c6,h.row.below hb,h.len,h.small,λj hj => ?_,map_below h.own hb,h.num,h.funcs.below hb⟩;obtain⟨nn,D,h1,h2⟩:=h.maps j hj;exact⟨nn,D,map_below h1 hb,h2⟩
theorem useE_F {gs:List Gl} {bs:List (List ByteArray)} {s:ByteArray} {arr:Bool} (hp : ∀g∈gs,0<=g.size):useE gs bs.flatten s arr=useF (findS (scopesF gs bs) s) arr:=by
 rw[useE_find hp];rfl
theorem useC_any (h:Ck w C B bn nn D t bsn bs v vf fn st) (hp : ∀g∈t.globals,0<=g.size) (s:ByteArray) (hs:s.size<=maxLen) (arr:Bool) :
  Calls prog 215 #[.pointer (some ⟨C,0,none⟩),.string s,.bool arr] w λe w'=>e=.returned (errV (useE t.globals bsn.flatten s arr) fn st)/\Below w.heap.size w w':=by
 have hpos:0<bs.length:=by rw[<-h.len];simp[scopesF]
 rw[useE_F hp];exact useK_any C B bs _ v s arr fn st w h.len h.small hpos hs h.c0 h.c5 h.c6 h.row h.maps
theorem nodeK_any (h:Ck w C B bn nn D t bsn bs v vf fn st) (hp : ∀g∈t.globals,0<=g.size) (hfl:t.funcs.length<=1048576) (n:Nd) (hs:n.name.size<=maxLen) :
  Calls prog 214 #[.pointer (some ⟨C,0,none⟩),.agg #[.int .i64 n.kind,.int .i64 n.val,.string n.name]] w λe w'=>e=.returned (errV (nodeE t bsn.flatten n) fn st)/\Below w.heap.size w w':=by
 obtain⟨kd,vl,nm⟩:=n;simp only at hs ⊢;have hA:Bl w (w.alloc (.cells #[.int .i64 kd,.int .i64 vl,.string nm] 134)):=bel_a _ _;have HK:=hide (h.below hA);clear h;by_cases h2:kd=2
 ·subst h2;have HE:Hid (nodeE t bsn.flatten ⟨2,vl,nm⟩=useE t.globals bsn.flatten nm false):=rfl;go_enter func214,ntmps214;go_wp2_with fail;refine (useC_any HK hp nm hs false).mono ?_;rintro e w1 ⟨rfl,hb1⟩;have hB:=hA.trans (hb1.mono (by simp));rw[<-HE.o];obtain⟨ev,hev⟩ : ∃ev,ev=errV (nodeE t bsn.flatten ⟨2,vl,nm⟩) fn st:=⟨_,rfl⟩;rw[<-hev];have HV:=hide hev;clear hev;go_wp2;go_ret;exact⟨ret_val HV,hB⟩
 by_cases h3:kd=3
 ·subst h3;have HE:Hid (nodeE t bsn.flatten ⟨3,vl,nm⟩=useE t.globals bsn.flatten nm true):=rfl;go_enter func214,ntmps214;go_wp2_with fail;refine (useC_any HK hp nm hs true).mono ?_;rintro e w1 ⟨rfl,hb1⟩;have hB:=hA.trans (hb1.mono (by simp));rw[<-HE.o];obtain⟨ev,hev⟩ : ∃ev,ev=errV (nodeE t bsn.flatten ⟨3,vl,nm⟩) fn st:=⟨_,rfl⟩;rw[<-hev];have HV:=hide hev;clear hev;go_wp2;go_ret;exact⟨ret_val HV,hB⟩
 by_cases h4:kd=4
 ·subst h4;go_enter func214,ntmps214;go_wp2_with fail;refine (callK_any C bn nn D t bsn.flatten vl fn st nm vf _ HK.o.c2 HK.o.c3 HK.o.c5 HK.o.c6 HK.o.own HK.o.num hfl HK.o.funcs hs).mono ?_;rintro e w1 ⟨rfl,hb1⟩;have hB:=hA.trans (hb1.mono (by simp));obtain⟨ev,hev⟩ : ∃ev,ev=errV (nodeE t bsn.flatten ⟨4,vl,nm⟩) fn st:=⟨_,rfl⟩;rw[<-hev];have HV:=hide hev;clear hev;go_wp2;go_ret;exact⟨ret_val HV,hB⟩
 ·have HE:Hid (nodeE t bsn.flatten ⟨kd,vl,nm⟩=0):=by
   show _=_;unfold nodeE;simp only;rw[if_neg o_,if_neg h4]
  have b2:(kd == 2)=false:=by simpa using h2
  have b3:(kd == 3)=false:=by simpa using h3
  have b4:(kd == 4)=false:=by simpa using h4
  go_enter func214,ntmps214;go_wp2;go_ret;exact⟨ret_val (by rw[HE.o];rfl),hA⟩
end
end Go.Proofs.YtffnkkpmlplfeaaGreatDoor
