import Derived.Test.YtngnoopnloojjaaGreatDoorRows
import Derived.JoinedOf
import Derived.Test.YtngnoopnloojjaaGreatDoorQ00
namespace Go.Proofs.YtngnoopnloojjaaGreatDoor
open Go.Proofs.Tryz
set_option linter.all false
set_option maxRecDepth 100000
set_option maxHeartbeats 0
variable[Inhabited Pick]
def an{a b:Bool}(h:a=true)(k:b=true):(a&&b)=true:= by rw[h, k]; rfl
theorem Et{P:Program}{f:FuncId}{fn:Func}{s:ChangeSpec}{c:OpenClaim}
    (k1:(c.wf (OpenSpec.ofChange s))=true)
    (k2:(laidOutB P)=true)
    (k3:(mapsRowed P)=true)
    (k4:(fn.params.all (P.readableRec ·))=true)
    (k5:(namedTie P c.named s.vars)=true)
    (k6:(c.stops == [])=true)
    (k7:(P.stops == [])=true)
    (k8:(c.knobs == [])=true)
    (k9:(P.stopKnobs == [])=true)
    (k10:(c.inPlace == P.inPlace f)=true)
    (k11:(c.unfollowed == P.unfollowed f)=true)
    (k12:(c.recurses == P.recurses f)=true)
    (k13:(c.named == P.varsNamed f)=true)
    (k14:(c.maps == (fn.params.toList ++ s.plain.varTypes P).any (P.mapsRec ·))=true)
    (k15:(c.ifaces == (fn.params.toList ++ s.plain.varTypes P).any (P.ifacesRec ·))=true)
    (k16:(c.mapsOut == P.mapsAmong fn.resultTypes.toList)=true)
    (k17:(c.loops == (fn.params.toList ++ s.plain.varTypes P).any (P.loopsFrom ·))=true)
    (k18:(c.wideKeys == (fn.params.toList ++ s.plain.varTypes P ++ fn.resultTypes.toList).any (P.wideKeysFrom ·))=true)
    (k19:(s.vars.all (P.varReadable ·))=true)
    (k20:(fn.resultTypes.all (λt=>P.readableRec t&&decide (t<P.types.size)))=true)
    (k21:(c.ifacesOut == fn.resultTypes.toList.any (P.ifacesRec ·))=true)
    (k22:(c.loopsOut == fn.resultTypes.toList.any (P.loopsFrom ·))=true)
    (k23:(c.plainKeys == P.plainKeys)=true)
    (k24:(c.shortTexts.isNone)=true)
    (k25:(P.stopsHeard)=true)
    (k26:(P.mayEnter)=true)
    (k27:(c.lifted == P.liftsFinal)=true)
    (k28:(P.make == some c.make)=true)
    (k29:(c.kinds == (if c.domain.isEmpty then[]else fn.params.toList.map λt=>match P.underlying t with|some (.int k)=>some k|_=>none))=true)
    (k30:(c.pinned == c.pinnedBy)=true)
    (k31:(c.veiled == (fn.params.toList ++ s.plain.varTypes P ++ fn.resultTypes.toList).any (P.veiledRec ·))=true)
    (k32:(c.veiledFits P fn.params.toList (fn.params.toList ++ s.plain.varTypes P ++ fn.resultTypes.toList))=true):joinedFacts P f fn s c=true:=
  an (an (an (an (an (an (an (an (an (an (an (an (an (an (an (an (an (an (an (an (an (an (an (an (an (an (an (an (an (an (an k1 k2) k3) k4) k5) k6) k7) k8) k9) k10) k11) k12) k13) k14) k15) k16) k17) k18) k19) k20) k21) k22) k23) k24) k25) k26) k27) k28) k29) k30) k31) k32
def M7:(Rows.fnOpsRow.wf (OpenSpec.ofChange Rows.fnOpsSpec))=true:= by kernel_rfl
def M8:(laidOutB prog)=true:= by kernel_rfl
def M9:(mapsRowed prog)=true:= by kernel_rfl
theorem Na:(Tryz.f3.params.all (prog.readableRec ·))=true:= by kernel_rfl
def Nb:(namedTie prog Rows.fnOpsRow.named Rows.fnOpsSpec.vars)=true:= by kernel_rfl
def Nc:(Rows.fnOpsRow.stops == [])=true:= by kernel_rfl
def Nf:(prog.stops == [])=true:= by kernel_rfl
def Ng:(Rows.fnOpsRow.knobs == [])=true:= by kernel_rfl
def Nh:(prog.stopKnobs == [])=true:= by kernel_rfl
def Ks:(Rows.fnOpsRow.inPlace == prog.inPlace 3)=true:= by kernel_rfl
def Kt:(Rows.fnOpsRow.unfollowed == prog.unfollowed 3)=true:= by kernel_rfl
def Ku:(Rows.fnOpsRow.recurses == prog.recurses 3)=true:= by kernel_rfl
def Kv:(Rows.fnOpsRow.named == prog.varsNamed 3)=true:= by kernel_rfl
theorem Kw:(Rows.fnOpsRow.maps == (Tryz.f3.params.toList ++ Rows.fnOpsSpec.plain.varTypes prog).any (prog.mapsRec ·))=true:= by kernel_rfl
theorem Kx:(Rows.fnOpsRow.ifaces == (Tryz.f3.params.toList ++ Rows.fnOpsSpec.plain.varTypes prog).any (prog.ifacesRec ·))=true:= by kernel_rfl
def Ky:(Rows.fnOpsRow.mapsOut == prog.mapsAmong Tryz.f3.resultTypes.toList)=true:= by kernel_rfl
theorem Kz:(Rows.fnOpsRow.loops == (Tryz.f3.params.toList ++ Rows.fnOpsSpec.plain.varTypes prog).any (prog.loopsFrom ·))=true:= by kernel_rfl
theorem KA:(Rows.fnOpsRow.wideKeys == (Tryz.f3.params.toList ++ Rows.fnOpsSpec.plain.varTypes prog ++ Tryz.f3.resultTypes.toList).any (prog.wideKeysFrom ·))=true:= by kernel_rfl
def KB:(Rows.fnOpsSpec.vars.all (prog.varReadable ·))=true:= by kernel_rfl
def KC:(Tryz.f3.resultTypes.all (λt=>prog.readableRec t&&decide (t<prog.types.size)))=true:= by kernel_rfl
def KD:(Rows.fnOpsRow.ifacesOut == Tryz.f3.resultTypes.toList.any (prog.ifacesRec ·))=true:= by kernel_rfl
def KE:(Rows.fnOpsRow.loopsOut == Tryz.f3.resultTypes.toList.any (prog.loopsFrom ·))=true:= by kernel_rfl
def KF:(Rows.fnOpsRow.plainKeys == prog.plainKeys)=true:= by kernel_rfl
def KG:(Rows.fnOpsRow.shortTexts.isNone)=true:= by kernel_rfl
def KH:(prog.stopsHeard)=true:= by kernel_rfl
def KI:(prog.mayEnter)=true:= by kernel_rfl
def KJ:(Rows.fnOpsRow.lifted == prog.liftsFinal)=true:= by kernel_rfl
def KK:(prog.make == some Rows.fnOpsRow.make)=true:= by kernel_rfl
theorem KL:(Rows.fnOpsRow.kinds == (if Rows.fnOpsRow.domain.isEmpty then[]else Tryz.f3.params.toList.map λt=>match prog.underlying t with|some (.int k)=>some k|_=>none))=true:= by kernel_rfl
def KM:(Rows.fnOpsRow.pinned == Rows.fnOpsRow.pinnedBy)=true:= by kernel_rfl
theorem KN:(Rows.fnOpsRow.veiled == (Tryz.f3.params.toList ++ Rows.fnOpsSpec.plain.varTypes prog ++ Tryz.f3.resultTypes.toList).any (prog.veiledRec ·))=true:= by kernel_rfl
theorem KO:(Rows.fnOpsRow.veiledFits prog Tryz.f3.params.toList (Tryz.f3.params.toList ++ Rows.fnOpsSpec.plain.varTypes prog ++ Tryz.f3.resultTypes.toList))=true:= by kernel_rfl
def yE:joinedFacts prog 3 Tryz.f3 Rows.fnOpsSpec Rows.fnOpsRow=true:=
  Et M7 M8 M9 Na Nb Nc Nf Ng Nh Ks Kt Ku Kv Kw Kx Ky Kz KA KB KC KD KE KF KG KH KI KJ KK KL KM KN KO
end Go.Proofs.YtngnoopnloojjaaGreatDoor
