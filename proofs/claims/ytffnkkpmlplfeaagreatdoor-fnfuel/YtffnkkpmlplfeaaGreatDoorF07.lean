import Derived.Test.YtffnkkpmlplfeaaGreatDoorRows
import Derived.WalkSpells
import Derived.Test.YtffnkkpmlplfeaaGreatDoorF00
namespace Go.Proofs.YtffnkkpmlplfeaaGreatDoor
open Go.Proofs.Tryz Go.RowKit
set_option linter.all false
set_option maxRecDepth 100000
set_option maxHeartbeats 0
variable[Inhabited Pick]
def rZ(W:AT)(v:BY):(Instr.typeAssert (.iface 236 v) 183 236 true).run prog W=.ok (.tuple #[v,.bool true]) W:=by kernel_rfl
def ee(W:AT)(u:GC)(v:BY)(h:u≠236):(Instr.typeAssert (.iface u v) 183 236 true).run prog W=.ok (.tuple #[.agg #[V 0],.bool false]) W:=by
 have e:(Instr.typeAssert (.iface u v) 183 236 true).run prog W=(if u=236 then(pure (Value.tuple #[v,.bool true]):Sem BY)else(do pure (Value.tuple #[<-zeroValue 236,.bool false]))).run prog W:=k_;rw[e,if_neg h];show _=_;kernel_rfl
def sa(W:AT)(v:BY):(Instr.typeAssert (.iface 264 v) 183 264 true).run prog W=.ok (.tuple #[v,.bool true]) W:=by kernel_rfl
def fe(W:AT)(u:GC)(v:BY)(h:u≠264):(Instr.typeAssert (.iface u v) 183 264 true).run prog W=.ok (.tuple #[.agg #[sV ⟨#[]⟩],.bool false]) W:=by
 have e:(Instr.typeAssert (.iface u v) 183 264 true).run prog W=(if u=264 then(pure (Value.tuple #[v,.bool true]):Sem BY)else(do pure (Value.tuple #[<-zeroValue 264,.bool false]))).run prog W:=k_;rw[e,if_neg h];show _=_;kernel_rfl
def jz(W:AT)(v:BY):(Instr.typeAssert (.iface 266 v) 183 266 true).run prog W=.ok (.tuple #[v,.bool true]) W:=by kernel_rfl
def fq(W:AT)(u:GC)(v:BY)(h:u≠266):(Instr.typeAssert (.iface u v) 183 266 true).run prog W=.ok (.tuple #[.agg #[sV ⟨#[]⟩,.nilIface],.bool false]) W:=by
 have e:(Instr.typeAssert (.iface u v) 183 266 true).run prog W=(if u=266 then(pure (Value.tuple #[v,.bool true]):Sem BY)else(do pure (Value.tuple #[<-zeroValue 266,.bool false]))).run prog W:=k_;rw[e,if_neg h];show _=_;kernel_rfl
def qk(W:AT)(v:BY):(Instr.typeAssert (.iface 268 v) 183 268 true).run prog W=.ok (.tuple #[v,.bool true]) W:=by kernel_rfl
def gO(W:AT)(u:GC)(v:BY)(h:u≠268):(Instr.typeAssert (.iface u v) 183 268 true).run prog W=.ok (.tuple #[.agg #[sV ⟨#[]⟩,nV],.bool false]) W:=by
 have e:(Instr.typeAssert (.iface u v) 183 268 true).run prog W=(if u=268 then(pure (Value.tuple #[v,.bool true]):Sem BY)else(do pure (Value.tuple #[<-zeroValue 268,.bool false]))).run prog W:=k_;rw[e,if_neg h];show _=_;kernel_rfl
def uZ(W:AT)(v:BY):(Instr.typeAssert (.iface 270 v) 183 270 true).run prog W=.ok (.tuple #[v,.bool true]) W:=by kernel_rfl
def yo(W:AT)(u:GC)(v:BY)(h:u≠270):(Instr.typeAssert (.iface u v) 183 270 true).run prog W=.ok (.tuple #[.agg #[V 0,.nilIface],.bool false]) W:=by
 have e:(Instr.typeAssert (.iface u v) 183 270 true).run prog W=(if u=270 then(pure (Value.tuple #[v,.bool true]):Sem BY)else(do pure (Value.tuple #[<-zeroValue 270,.bool false]))).run prog W:=k_;rw[e,if_neg h];show _=_;kernel_rfl
def sb(W:AT)(v:BY):(Instr.typeAssert (.iface 272 v) 183 272 true).run prog W=.ok (.tuple #[v,.bool true]) W:=by kernel_rfl
def se(W:AT)(v:BY):(Instr.typeAssert (.iface 274 v) 183 274 true).run prog W=.ok (.tuple #[v,.bool true]) W:=by kernel_rfl
def nz(W:AT)(u:GC)(v:BY)(h:u≠274):(Instr.typeAssert (.iface u v) 183 274 true).run prog W=.ok (.tuple #[.agg #[.nilIface,.nilIface],.bool false]) W:=by
 have e:(Instr.typeAssert (.iface u v) 183 274 true).run prog W=(if u=274 then(pure (Value.tuple #[v,.bool true]):Sem BY)else(do pure (Value.tuple #[<-zeroValue 274,.bool false]))).run prog W:=k_;rw[e,if_neg h];show _=_;kernel_rfl
def u_(W:AT)(v:BY):(Instr.typeAssert (.iface 275 v) 183 275 true).run prog W=.ok (.tuple #[v,.bool true]) W:=by kernel_rfl
def yp(W:AT)(u:GC)(v:BY)(h:u≠275):(Instr.typeAssert (.iface u v) 183 275 true).run prog W=.ok (.tuple #[.agg #[.nilIface,.nilIface],.bool false]) W:=by
 have e:(Instr.typeAssert (.iface u v) 183 275 true).run prog W=(if u=275 then(pure (Value.tuple #[v,.bool true]):Sem BY)else(do pure (Value.tuple #[<-zeroValue 275,.bool false]))).run prog W:=k_;rw[e,if_neg h];show _=_;kernel_rfl
def ql(W:AT)(v:BY):(Instr.typeAssert (.iface 213 v) 168 213 true).run prog W=.ok (.tuple #[v,.bool true]) W:=by kernel_rfl
def dD(W:AT)(u:GC)(v:BY)(h:u≠213):(Instr.typeAssert (.iface u v) 168 213 true).run prog W=.ok (.tuple #[.agg #[sV ⟨#[]⟩,.nilIface],.bool false]) W:=by
 have e:(Instr.typeAssert (.iface u v) 168 213 true).run prog W=(if u=213 then(pure (Value.tuple #[v,.bool true]):Sem BY)else(do pure (Value.tuple #[<-zeroValue 213,.bool false]))).run prog W:=k_;rw[e,if_neg h];show _=_;kernel_rfl
def sf(W:AT)(v:BY):(Instr.typeAssert (.iface 214 v) 168 214 true).run prog W=.ok (.tuple #[v,.bool true]) W:=by kernel_rfl
def ff(W:AT)(u:GC)(v:BY)(h:u≠214):(Instr.typeAssert (.iface u v) 168 214 true).run prog W=.ok (.tuple #[.agg #[sV ⟨#[]⟩,.nilIface],.bool false]) W:=by
 have e:(Instr.typeAssert (.iface u v) 168 214 true).run prog W=(if u=214 then(pure (Value.tuple #[v,.bool true]):Sem BY)else(do pure (Value.tuple #[<-zeroValue 214,.bool false]))).run prog W:=k_;rw[e,if_neg h];show _=_;kernel_rfl
def oW(W:AT)(v:BY):(Instr.typeAssert (.iface 216 v) 168 216 true).run prog W=.ok (.tuple #[v,.bool true]) W:=by kernel_rfl
def eh(W:AT)(u:GC)(v:BY)(h:u≠216):(Instr.typeAssert (.iface u v) 168 216 true).run prog W=.ok (.tuple #[.agg #[sV ⟨#[]⟩,.nilIface,.nilIface],.bool false]) W:=by
 have e:(Instr.typeAssert (.iface u v) 168 216 true).run prog W=(if u=216 then(pure (Value.tuple #[v,.bool true]):Sem BY)else(do pure (Value.tuple #[<-zeroValue 216,.bool false]))).run prog W:=k_;rw[e,if_neg h];show _=_;kernel_rfl
def vd(W:AT)(v:BY):(Instr.typeAssert (.iface 218 v) 168 218 true).run prog W=.ok (.tuple #[v,.bool true]) W:=by kernel_rfl
def ik(W:AT)(u:GC)(v:BY)(h:u≠218):(Instr.typeAssert (.iface u v) 168 218 true).run prog W=.ok (.tuple #[.agg #[.nilIface,nV,nV],.bool false]) W:=by
 have e:(Instr.typeAssert (.iface u v) 168 218 true).run prog W=(if u=218 then(pure (Value.tuple #[v,.bool true]):Sem BY)else(do pure (Value.tuple #[<-zeroValue 218,.bool false]))).run prog W:=k_;rw[e,if_neg h];show _=_;kernel_rfl
def jA(W:AT)(v:BY):(Instr.typeAssert (.iface 220 v) 168 220 true).run prog W=.ok (.tuple #[v,.bool true]) W:=by kernel_rfl
def im(W:AT)(u:GC)(v:BY)(h:u≠220):(Instr.typeAssert (.iface u v) 168 220 true).run prog W=.ok (.tuple #[.agg #[.nilIface,nV],.bool false]) W:=by
 have e:(Instr.typeAssert (.iface u v) 168 220 true).run prog W=(if u=220 then(pure (Value.tuple #[v,.bool true]):Sem BY)else(do pure (Value.tuple #[<-zeroValue 220,.bool false]))).run prog W:=k_;rw[e,if_neg h];show _=_;kernel_rfl
def mM(W:AT)(v:BY):(Instr.typeAssert (.iface 185 v) 168 185 true).run prog W=.ok (.tuple #[v,.bool true]) W:=by kernel_rfl
def jB(W:AT)(u:GC)(v:BY)(h:u≠185):(Instr.typeAssert (.iface u v) 168 185 true).run prog W=.ok (.tuple #[.agg #[.nilIface],.bool false]) W:=by
 have e:(Instr.typeAssert (.iface u v) 168 185 true).run prog W=(if u=185 then(pure (Value.tuple #[v,.bool true]):Sem BY)else(do pure (Value.tuple #[<-zeroValue 185,.bool false]))).run prog W:=k_;rw[e,if_neg h];show _=_;kernel_rfl
def sh(W:AT)(v:BY):(Instr.typeAssert (.iface 221 v) 168 221 true).run prog W=.ok (.tuple #[v,.bool true]) W:=by kernel_rfl
def vh(W:AT)(u:GC)(v:BY)(h:u≠221):(Instr.typeAssert (.iface u v) 168 221 true).run prog W=.ok (.tuple #[.agg #[.nilIface],.bool false]) W:=by
 have e:(Instr.typeAssert (.iface u v) 168 221 true).run prog W=(if u=221 then(pure (Value.tuple #[v,.bool true]):Sem BY)else(do pure (Value.tuple #[<-zeroValue 221,.bool false]))).run prog W:=k_;rw[e,if_neg h];show _=_;kernel_rfl
end Go.Proofs.YtffnkkpmlplfeaaGreatDoor
