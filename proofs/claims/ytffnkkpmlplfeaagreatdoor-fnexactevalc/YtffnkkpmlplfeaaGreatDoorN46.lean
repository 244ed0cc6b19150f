import Derived.Test.YtffnkkpmlplfeaaGreatDoorN37
import Derived.Test.YtffnkkpmlplfeaaGreatDoorN42
import Derived.Test.YtffnkkpmlplfeaaGreatDoorN45
namespace Go.Proofs.YtffnkkpmlplfeaaGreatDoor
open Go.Proofs.Tryz
open Go.RowKit
set_option linter.all false
set_option maxRecDepth 100000
set_option maxHeartbeats 16000000
structure OkRun (t:Tr) (i fr:List Int) (F:Int):Prop where
 ck:(checkE t).1=0
 il:i.length<=1000
 iw:i.all inBb=true
 fu:0<=F/\F<=100000
 fl:fr.length=t.funcs.length
 fb:fr.all frB=true
theorem evalG_bad (t:Tr) (vg vf vI vFr:Value) (i fr:List Int) (F:Int) (w:World) (hs:smallT t) (hw:wfT t) (hg:Globs w vg t.globals) (hf:Funcs w vf t.funcs) (hI:InN w vI i) (hFr:InN w vFr fr) (hil:i.length<=1048576) (hfl:fr.length<=1048576) (hno : ¬OkRun t i fr F) :
  Calls prog 7 #[.agg #[vg,vf],vI,.int .i64 F,vFr] w fun e w'=>e=.returned zeroE/\Below w.heap.size w w':=by
 have hck : ∀X,Bl w X->Calls prog 24 #[.agg #[vg,vf]] X fun e w'=>(∃x y,e=.returned (.agg #[.int .i64 (checkE t).1,.int .i64 x,.int .i64 y]))/\Bl X w':=fun X hX=>(checkCG_any l3block t vg vf X hs hw (hg.below hX) (hf.below hX)).mono fun e w' h=>⟨⟨_,_,h.1⟩,h.2⟩;by_cases h1:(checkE t).1=0
 ·by_cases h2:1000<i.length
  ·exact evalG_no t vg vf vI vFr i fr F w hck hg hf hI hFr hil hfl hs.2.1 (.inr (.inl h2))
  ·cases h3:i.all inBb with
   | false=>exact evalG_no t vg vf vI vFr i fr F w hck hg hf hI hFr hil hfl hs.2.1 (.inr (.inr (.inl h3)))
   | true=>
    by_cases h4:0<=F/\F<=100000
    ·by_cases h5:fr.length=t.funcs.length
     ·cases h6:fr.all frB with
      | false=>exact evalG_fr t vg vf vI vFr i fr F w hck hg hf hI hFr hil hfl hs.2.1 h1 (by omega) h3 h4 h5 h6
      | true=>exact absurd ⟨h1,by omega,h3,h4,h5,h6⟩ hno
     ·exact evalG_no t vg vf vI vFr i fr F w hck hg hf hI hFr hil hfl hs.2.1 (.inr (.inr (.inr (.inr h5))))
    ·exact evalG_no t vg vf vI vFr i fr F w hck hg hf hI hFr hil hfl hs.2.1 (.inr (.inr (.inr (.inl h4))))
 ·exact evalG_no t vg vf vI vFr i fr F w hck hg hf hI hFr hil hfl hs.2.1 (.inl h1)
theorem evalG_good (t:Tr) (vg vf vI vFr:Value) (i fr:List Int) (F:Int) (w:World) (hs:smallT t) (hw:wfT t) (hg:Globs w vg t.globals) (hf:Funcs w vf t.funcs) (hI:InN w vI i) (hFr:InN w vFr fr) (hil:i.length<=1048576) (hfl:fr.length<=1048576) (hok:OkRun t i fr F) {m n:Nat} {r:ER} {s':ES} (hm:fnum t.funcs mainS=some m) (hEv:Ev t fr n (.c m []) (s00 t i F) r s') :
  Calls prog 7 #[.agg #[vg,vf],vI,.int .i64 F,vFr] w fun e w'=>EvA r s' F w e w':=by
 have hck : ∀X,Bl w X->Calls prog 24 #[.agg #[vg,vf]] X fun e w'=>(∃x y,e=.returned (.agg #[.int .i64 (checkE t).1,.int .i64 x,.int .i64 y]))/\Bl X w':=fun X hX=>(checkCG_any l3block t vg vf X hs hw (hg.below hX) (hf.below hX)).mono fun e w' h=>⟨⟨_,_,h.1⟩,h.2⟩;exact evalG_go t vg vf vI vFr i fr F w hck hg hf hI hFr hil hfl hs.2.1 hok.ck hok.il hok.iw hok.fu hok.fl hok.fb hm hEv
end Go.Proofs.YtffnkkpmlplfeaaGreatDoor
