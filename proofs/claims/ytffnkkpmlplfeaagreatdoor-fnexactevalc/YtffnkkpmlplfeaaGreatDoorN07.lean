import Derived.Test.YtffnkkpmlplfeaaGreatDoorRows
import Derived.WalkSpells
import Derived.Test.YtffnkkpmlplfeaaGreatDoorN00
namespace Go.Proofs.YtffnkkpmlplfeaaGreatDoor
open Go.Proofs.Tryz
open Go.RowKit
set_option linter.all false
set_option maxRecDepth 100000
set_option maxHeartbeats 16000000
variable[Inhabited Pick]
theorem as_num_yes (W:World) (v:Value):(Instr.typeAssert (.iface 236 v) 183 236 true).run prog W=.ok (.tuple #[v,.bool true]) W:=by kernel_rfl
theorem as_num_no (W:World) (u:TypeId) (v:Value) (h:u≠236):(Instr.typeAssert (.iface u v) 183 236 true).run prog W=.ok (.tuple #[.agg #[.int .i64 0],.bool false]) W:=by
 have e:(Instr.typeAssert (.iface u v) 183 236 true).run prog W=(if u=236 then (pure (Value.tuple #[v,.bool true]):Sem Value) else (do pure (Value.tuple #[<-zeroValue 236,.bool false]))).run prog W:=by kernel_rfl
 rw[e,if_neg h];show _=_;kernel_rfl
theorem as_var_yes (W:World) (v:Value):(Instr.typeAssert (.iface 264 v) 183 264 true).run prog W=.ok (.tuple #[v,.bool true]) W:=by kernel_rfl
theorem as_var_no (W:World) (u:TypeId) (v:Value) (h:u≠264):(Instr.typeAssert (.iface u v) 183 264 true).run prog W=.ok (.tuple #[.agg #[.string ⟨#[]⟩],.bool false]) W:=by
 have e:(Instr.typeAssert (.iface u v) 183 264 true).run prog W=(if u=264 then (pure (Value.tuple #[v,.bool true]):Sem Value) else (do pure (Value.tuple #[<-zeroValue 264,.bool false]))).run prog W:=by kernel_rfl
 rw[e,if_neg h];show _=_;kernel_rfl
theorem as_index_yes (W:World) (v:Value):(Instr.typeAssert (.iface 266 v) 183 266 true).run prog W=.ok (.tuple #[v,.bool true]) W:=by kernel_rfl
theorem as_index_no (W:World) (u:TypeId) (v:Value) (h:u≠266):(Instr.typeAssert (.iface u v) 183 266 true).run prog W=.ok (.tuple #[.agg #[.string ⟨#[]⟩,.nilIface],.bool false]) W:=by
 have e:(Instr.typeAssert (.iface u v) 183 266 true).run prog W=(if u=266 then (pure (Value.tuple #[v,.bool true]):Sem Value) else (do pure (Value.tuple #[<-zeroValue 266,.bool false]))).run prog W:=by kernel_rfl
 rw[e,if_neg h];show _=_;kernel_rfl
theorem as_call_yes (W:World) (v:Value):(Instr.typeAssert (.iface 268 v) 183 268 true).run prog W=.ok (.tuple #[v,.bool true]) W:=by kernel_rfl
theorem as_call_no (W:World) (u:TypeId) (v:Value) (h:u≠268):(Instr.typeAssert (.iface u v) 183 268 true).run prog W=.ok (.tuple #[.agg #[.string ⟨#[]⟩,.slice none 0 0],.bool false]) W:=by
 have e:(Instr.typeAssert (.iface u v) 183 268 true).run prog W=(if u=268 then (pure (Value.tuple #[v,.bool true]):Sem Value) else (do pure (Value.tuple #[<-zeroValue 268,.bool false]))).run prog W:=by kernel_rfl
 rw[e,if_neg h];show _=_;kernel_rfl
theorem as_un_yes (W:World) (v:Value):(Instr.typeAssert (.iface 270 v) 183 270 true).run prog W=.ok (.tuple #[v,.bool true]) W:=by kernel_rfl
theorem as_un_no (W:World) (u:TypeId) (v:Value) (h:u≠270):(Instr.typeAssert (.iface u v) 183 270 true).run prog W=.ok (.tuple #[.agg #[.int .i64 0,.nilIface],.bool false]) W:=by
 have e:(Instr.typeAssert (.iface u v) 183 270 true).run prog W=(if u=270 then (pure (Value.tuple #[v,.bool true]):Sem Value) else (do pure (Value.tuple #[<-zeroValue 270,.bool false]))).run prog W:=by kernel_rfl
 rw[e,if_neg h];show _=_;kernel_rfl
theorem as_bin_yes (W:World) (v:Value):(Instr.typeAssert (.iface 272 v) 183 272 true).run prog W=.ok (.tuple #[v,.bool true]) W:=by kernel_rfl
theorem as_and_yes (W:World) (v:Value):(Instr.typeAssert (.iface 274 v) 183 274 true).run prog W=.ok (.tuple #[v,.bool true]) W:=by kernel_rfl
theorem as_and_no (W:World) (u:TypeId) (v:Value) (h:u≠274):(Instr.typeAssert (.iface u v) 183 274 true).run prog W=.ok (.tuple #[.agg #[.nilIface,.nilIface],.bool false]) W:=by
 have e:(Instr.typeAssert (.iface u v) 183 274 true).run prog W=(if u=274 then (pure (Value.tuple #[v,.bool true]):Sem Value) else (do pure (Value.tuple #[<-zeroValue 274,.bool false]))).run prog W:=by kernel_rfl
 rw[e,if_neg h];show _=_;kernel_rfl
theorem as_or_yes (W:World) (v:Value):(Instr.typeAssert (.iface 275 v) 183 275 true).run prog W=.ok (.tuple #[v,.bool true]) W:=by kernel_rfl
theorem as_or_no (W:World) (u:TypeId) (v:Value) (h:u≠275):(Instr.typeAssert (.iface u v) 183 275 true).run prog W=.ok (.tuple #[.agg #[.nilIface,.nilIface],.bool false]) W:=by
 have e:(Instr.typeAssert (.iface u v) 183 275 true).run prog W=(if u=275 then (pure (Value.tuple #[v,.bool true]):Sem Value) else (do pure (Value.tuple #[<-zeroValue 275,.bool false]))).run prog W:=by kernel_rfl
 rw[e,if_neg h];show _=_;kernel_rfl
theorem sa_decl_yes (W:World) (v:Value):(Instr.typeAssert (.iface 213 v) 168 213 true).run prog W=.ok (.tuple #[v,.bool true]) W:=by kernel_rfl
theorem sa_decl_no (W:World) (u:TypeId) (v:Value) (h:u≠213):(Instr.typeAssert (.iface u v) 168 213 true).run prog W=.ok (.tuple #[.agg #[.string ⟨#[]⟩,.nilIface],.bool false]) W:=by
 have e:(Instr.typeAssert (.iface u v) 168 213 true).run prog W=(if u=213 then (pure (Value.tuple #[v,.bool true]):Sem Value) else (do pure (Value.tuple #[<-zeroValue 213,.bool false]))).run prog W:=by kernel_rfl
 rw[e,if_neg h];show _=_;kernel_rfl
theorem sa_set_yes (W:World) (v:Value):(Instr.typeAssert (.iface 214 v) 168 214 true).run prog W=.ok (.tuple #[v,.bool true]) W:=by kernel_rfl
theorem sa_set_no (W:World) (u:TypeId) (v:Value) (h:u≠214):(Instr.typeAssert (.iface u v) 168 214 true).run prog W=.ok (.tuple #[.agg #[.string ⟨#[]⟩,.nilIface],.bool false]) W:=by
 have e:(Instr.typeAssert (.iface u v) 168 214 true).run prog W=(if u=214 then (pure (Value.tuple #[v,.bool true]):Sem Value) else (do pure (Value.tuple #[<-zeroValue 214,.bool false]))).run prog W:=by kernel_rfl
 rw[e,if_neg h];show _=_;kernel_rfl
theorem sa_store_yes (W:World) (v:Value):(Instr.typeAssert (.iface 216 v) 168 216 true).run prog W=.ok (.tuple #[v,.bool true]) W:=by kernel_rfl
theorem sa_store_no (W:World) (u:TypeId) (v:Value) (h:u≠216):(Instr.typeAssert (.iface u v) 168 216 true).run prog W=.ok (.tuple #[.agg #[.string ⟨#[]⟩,.nilIface,.nilIface],.bool false]) W:=by
 have e:(Instr.typeAssert (.iface u v) 168 216 true).run prog W=(if u=216 then (pure (Value.tuple #[v,.bool true]):Sem Value) else (do pure (Value.tuple #[<-zeroValue 216,.bool false]))).run prog W:=by kernel_rfl
 rw[e,if_neg h];show _=_;kernel_rfl
theorem sa_if_yes (W:World) (v:Value):(Instr.typeAssert (.iface 218 v) 168 218 true).run prog W=.ok (.tuple #[v,.bool true]) W:=by kernel_rfl
theorem sa_if_no (W:World) (u:TypeId) (v:Value) (h:u≠218):(Instr.typeAssert (.iface u v) 168 218 true).run prog W=.ok (.tuple #[.agg #[.nilIface,.slice none 0 0,.slice none 0 0],.bool false]) W:=by
 have e:(Instr.typeAssert (.iface u v) 168 218 true).run prog W=(if u=218 then (pure (Value.tuple #[v,.bool true]):Sem Value) else (do pure (Value.tuple #[<-zeroValue 218,.bool false]))).run prog W:=by kernel_rfl
 rw[e,if_neg h];show _=_;kernel_rfl
theorem sa_while_yes (W:World) (v:Value):(Instr.typeAssert (.iface 220 v) 168 220 true).run prog W=.ok (.tuple #[v,.bool true]) W:=by kernel_rfl
theorem sa_while_no (W:World) (u:TypeId) (v:Value) (h:u≠220):(Instr.typeAssert (.iface u v) 168 220 true).run prog W=.ok (.tuple #[.agg #[.nilIface,.slice none 0 0],.bool false]) W:=by
 have e:(Instr.typeAssert (.iface u v) 168 220 true).run prog W=(if u=220 then (pure (Value.tuple #[v,.bool true]):Sem Value) else (do pure (Value.tuple #[<-zeroValue 220,.bool false]))).run prog W:=by kernel_rfl
 rw[e,if_neg h];show _=_;kernel_rfl
theorem sa_return_yes (W:World) (v:Value):(Instr.typeAssert (.iface 185 v) 168 185 true).run prog W=.ok (.tuple #[v,.bool true]) W:=by kernel_rfl
theorem sa_return_no (W:World) (u:TypeId) (v:Value) (h:u≠185):(Instr.typeAssert (.iface u v) 168 185 true).run prog W=.ok (.tuple #[.agg #[.nilIface],.bool false]) W:=by
 have e:(Instr.typeAssert (.iface u v) 168 185 true).run prog W=(if u=185 then (pure (Value.tuple #[v,.bool true]):Sem Value) else (do pure (Value.tuple #[<-zeroValue 185,.bool false]))).run prog W:=by kernel_rfl
 rw[e,if_neg h];show _=_;kernel_rfl
theorem sa_out_yes (W:World) (v:Value):(Instr.typeAssert (.iface 221 v) 168 221 true).run prog W=.ok (.tuple #[v,.bool true]) W:=by kernel_rfl
theorem sa_out_no (W:World) (u:TypeId) (v:Value) (h:u≠221):(Instr.typeAssert (.iface u v) 168 221 true).run prog W=.ok (.tuple #[.agg #[.nilIface],.bool false]) W:=by
 have e:(Instr.typeAssert (.iface u v) 168 221 true).run prog W=(if u=221 then (pure (Value.tuple #[v,.bool true]):Sem Value) else (do pure (Value.tuple #[<-zeroValue 221,.bool false]))).run prog W:=by kernel_rfl
 rw[e,if_neg h];show _=_;kernel_rfl
end Go.Proofs.YtffnkkpmlplfeaaGreatDoor
