import Derived.Test.YtffnkkpmlplfeaaGreatDoorF16
import Derived.Test.YtffnkkpmlplfeaaGreatDoorF27
namespace Go.Proofs.YtffnkkpmlplfeaaGreatDoor
open Go.Proofs.Tryz Go.RowKit
set_option linter.all false
set_option maxRecDepth 100000
set_option maxHeartbeats 0
variable[Inhabited Pick]
def mS(o:Option Int)(arr:Bool):Int:=match o with|none=>4|some z=>if decide (z>0)=arr then 0 else 5
theorem zv(C B:Nat)(bs:List Nat)(fl:List (GA->Option Int))(v:BY)(s:GA)(Jd:Bool)(fn st:Int)(w:AT)(hl:fl.length=bs.length)(Je:bs.length<=1000000)(hp:0<bs.length)(hs:s.size<=maxLen)
  (hc:DO w C 0 v) (h5:DO w C 5 (V fn)) (h6:DO w C 6 (V st)) (hR:ja B w v bs) (hM:∀j,j<bs.length->∃nn D,w.ownsMap prog 9 (plainElem (H:=Unit) prog 2) (bs[j]?.getD 0) nn D/\dy D (fl.getD j Co)):
  Calls prog 215 #[pV C,sV s,.bool Jd] w λe w'=>e=rW (eM (mS (findS fl s) Jd) fn st)/\Bl w w':=by
 have U:C<w.heap.size:=b_ hc;have I:=ah (vA C B bs fl v s w hl Je hp hs hc hR hM);cases hfi:findS fl s with
 | none=>
  rw[hfi]at I;go_in;go_wp2_with fail;refine I.o.mono ?_;rintro e w1 ⟨rfl,h⟩;have c5:=(h.cell (p:=⟨C,5,none⟩) U).trans h5;have Z:=(h.cell (p:=⟨C,6,none⟩) U).trans h6;go_wp2_with fail;refine(dg C 4 fn st _ c5 Z).mono ?_;rintro e w2 ⟨rfl,Y⟩;rw[Y];go_wp2;go_ret;exact⟨aG rfl,h⟩
 | some z=>
  rw[hfi]at I;by_cases hz:z>0
  ·cases Jd
   ·go_in;go_wp2_with fail;refine I.o.mono ?_;rintro e w1 ⟨rfl,h⟩;have c5:=(h.cell (p:=⟨C,5,none⟩) U).trans h5;have Z:=(h.cell (p:=⟨C,6,none⟩) U).trans h6;have J:Hid (mS (some z) false=5):=by show _=_;unfold mS;simp[hz]
    go_wp2_with fail;refine(dg C 5 fn st _ c5 Z).mono ?_;rintro e w2 ⟨rfl,Y⟩;rw[Y];go_wp2;go_ret;exact⟨aG (by rw[J.o];rfl),h⟩
   ·go_in;go_wp2_with fail;refine I.o.mono ?_;rintro e w1 ⟨rfl,h⟩;have J:Hid (mS (some z) true=0):=by show _=_;unfold mS;simp[hz]
    go_wp2;go_ret;exact⟨aG (by rw[J.o];rfl),h⟩
  ·cases Jd
   ·go_in;go_wp2_with fail;refine I.o.mono ?_;rintro e w1 ⟨rfl,h⟩;have J:Hid (mS (some z) false=0):=by show _=_;unfold mS;simp[hz]
    go_wp2;go_ret;exact⟨aG (by rw[J.o];rfl),h⟩
   ·go_in;go_wp2_with fail;refine I.o.mono ?_;rintro e w1 ⟨rfl,h⟩;have c5:=(h.cell (p:=⟨C,5,none⟩) U).trans h5;have Z:=(h.cell (p:=⟨C,6,none⟩) U).trans h6;have J:Hid (mS (some z) true=5):=by show _=_;unfold mS;simp[hz]
    have Jg:z<=0:=o_;have Jf:decide (0<z)=false:=by simp;omega
    have Jh:decide (z>0)=false:=by simp;omega
    go_wp2_with fail;refine(dg C 5 fn st _ c5 Z).mono ?_;rintro e w2 ⟨rfl,Y⟩;rw[Y];go_wp2;go_ret;exact⟨aG (by rw[J.o];rfl),h⟩
section
variable{w:AT}{C B bn nn:Nat}{D:DataW Unit}{t:Tr}{bsn:List (List GA)}{bs:List Nat}{v vf:BY}{fn st:Int}
structure Ck (w:AT) (C B bn nn:Nat) (D:DataW Unit) (t:Tr) (bsn:List (List GA)) (bs:List Nat) (v vf:BY) (fn st:Int):Prop where
 c0:w.cell? ⟨C,0,none⟩=some v
 c2:w.cell? ⟨C,2,none⟩=some vf
 c3:w.cell? ⟨C,3,none⟩=some (.map (some bn))
 c5:w.cell? ⟨C,5,none⟩=some (V fn)
 c6:w.cell? ⟨C,6,none⟩=some (V st)
 row:ja B w v bs
 len:(eI t.globals bsn).length=bs.length
 small:bs.length<=1000000
 maps:∀j,j<bs.length->∃nn D,w.ownsMap prog 9 (plainElem (H:=Unit) prog 2) (bs[j]?.getD 0) nn D/\dy D ((eI t.globals bsn).getD j Co)
 own:w.ownsMap prog 9 (plainElem (H:=Unit) prog 2) bn nn D
 num:cR D t.funcs
 funcs:bC w vf t.funcs
def Ck.below{w':AT}(h:Ck w C B bn nn D t bsn bs v vf fn st)(I:Bl w w'):Ck w' C B bn nn D t bsn bs v vf fn st:=by
 have J:C<w.heap.size:=b_ h.c0;refine⟨(I.cell (p:=⟨C,0,none⟩) J).trans h.c0,(I.cell (p:=⟨C,2,none⟩) J).trans h.c2,(I.cell (p:=⟨C,3,none⟩) J).trans h.c3,(I.cell (p:=⟨C,5,none⟩) J).trans h.c5,(I.cell (p:=⟨C,6,none⟩) J).trans h.c6,h.row.below I,h.len,h.small,λj hj=>?_,dJ h.own I,h.num,h.funcs.below I⟩;obtain⟨nn,D,U,h2⟩:=h.maps j hj;exact⟨nn,D,dJ U I,h2⟩
def Dl{gs:List Gl}{bs:List (List GA)}{s:GA}{h:Bool}(I:∀g∈gs,0<=g.size):dR gs bs.flatten s h=mS (findS (eI gs bs) s) h:=by
 rw[uX I];rfl
def jL(h:Ck w C B bn nn D t bsn bs v vf fn st)(U:∀g∈t.globals,0<=g.size)(s:GA)(Y:s.size<=maxLen)(I:Bool):
  Calls prog 215 #[pV C,sV s,.bool I] w λe w'=>e=rW (eM (dR t.globals bsn.flatten s I) fn st)/\Bl w w':=by
 have J:0<bs.length:=by rw[<-h.len];simp[eI]
 rw[Dl U];exact zv C B bs _ v s I fn st w h.len h.small J Y h.c0 h.c5 h.c6 h.row h.maps
def wt(h:Ck w C B bn nn D t bsn bs v vf fn st)(hp:∀g∈t.globals,0<=g.size)(Jc:t.funcs.length<=1048576)(n:Nd)(hs:n.name.size<=maxLen):
  Calls prog 214 #[pV C,.agg #[V n.kind,V n.val,sV n.name]] w λe w'=>e=rW (eM (aS t bsn.flatten n) fn st)/\Bl w w':=by
 obtain⟨U,vl,nm⟩:=n;simp only at hs⊢;have hA:Bl w (w.alloc (.cells #[V U,V vl,sV nm] 134)):=au _ _;have J:=ah (h.below hA);clear h;by_cases h2:U=2
 ·subst h2;have HE:Hid (aS t bsn.flatten ⟨2,vl,nm⟩=dR t.globals bsn.flatten nm false):=rfl;go_in;go_wp2_with fail;refine(jL J hp nm hs false).mono ?_;rintro e w1 ⟨rfl,Jb⟩;have Z:=hA.trans (Jb.mono i_);rw[<-HE.o];obtain⟨ev,I⟩:=q_ (eM (aS t bsn.flatten ⟨2,vl,nm⟩) fn st);rw[<-I];have Y:=ah I;clear I;go_wp2;go_ret;exact⟨aG Y,Z⟩
 by_cases h3:U=3
 ·subst h3;have HE:Hid (aS t bsn.flatten ⟨3,vl,nm⟩=dR t.globals bsn.flatten nm true):=rfl;go_in;go_wp2_with fail;refine(jL J hp nm hs true).mono ?_;rintro e w1 ⟨rfl,Jb⟩;have Z:=hA.trans (Jb.mono i_);rw[<-HE.o];obtain⟨ev,I⟩:=q_ (eM (aS t bsn.flatten ⟨3,vl,nm⟩) fn st);rw[<-I];have Y:=ah I;clear I;go_wp2;go_ret;exact⟨aG Y,Z⟩
 by_cases h4:U=4
 ·subst h4;go_in;go_wp2_with fail;refine(wo C bn nn D t bsn.flatten vl fn st nm vf _ J.o.c2 J.o.c3 J.o.c5 J.o.c6 J.o.own J.o.num Jc J.o.funcs hs).mono ?_;rintro e w1 ⟨rfl,Jb⟩;have Z:=hA.trans (Jb.mono i_);obtain⟨ev,I⟩:=q_ (eM (aS t bsn.flatten ⟨4,vl,nm⟩) fn st);rw[<-I];have Y:=ah I;clear I;go_wp2;go_ret;exact⟨aG Y,Z⟩
 ·have HE:Hid (aS t bsn.flatten ⟨U,vl,nm⟩=0):=by
   show _=_;unfold aS;simp only;rw[if_neg o_,if_neg h4]
  have b2:(U == 2)=false:=Fc h2
  have b3:(U == 3)=false:=Fc h3
  have b4:(U == 4)=false:=Fc h4
  go_in;go_wp2;go_ret;exact⟨aG (by rw[HE.o];rfl),hA⟩
end
end Go.Proofs.YtffnkkpmlplfeaaGreatDoor
