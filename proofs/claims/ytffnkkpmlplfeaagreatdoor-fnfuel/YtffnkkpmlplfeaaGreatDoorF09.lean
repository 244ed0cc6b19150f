import Derived.Test.YtffnkkpmlplfeaaGreatDoorF08
import Derived.Test.YtffnkkpmlplfeaaGreatDoorF02
namespace Go.Proofs.YtffnkkpmlplfeaaGreatDoor
open Go.Proofs.Tryz Go.RowKit Go.Sort Go.Shelf
set_option linter.all false
set_option maxRecDepth 100000
set_option maxHeartbeats 0
variable[Inhabited Pick]
def CQ(m:Nat):AnyZI.SortsIn prog Tryz.sortedA_ren Fence.wide m:=
 ⟨λblk off cap ss W hH hblk hsz=>callsIn_wide.2 (AnyM.slices_Sort_int Tryz.sortA blk off cap ss W hH hblk hsz),
  λp cap W=>callsIn_wide.2 (AnyM.slices_Sort_int_none Tryz.sortA p cap W)⟩
def yq(mb:Option Nat)(w:AT):Calls prog 160 #[.map mb] w λe w'=>e=rW (.func (.func 192) #[] #[pV w.heap.size])/\w'=w.alloc (.cells #[.map mb] 243):=
 (callsIn_wide (n:=5)).1 (AnyZI.keys_in Tryz.keysA Fence.wide 5 trivial rfl mb w)
def sj(b nn:Nat)(D:DataW Unit)(R:BY->Option (DataW Unit×List MemPlace))(w:AT)(J:w.ownsMap prog 2 R b nn D)(Jg:Maps.size D<=10000000000000):
  Calls prog 159 #[.func (.func 192) #[] #[pV w.heap.size]] (w.alloc (.cells #[.map (some b)] 243)) λe w'=>∃(v:BY) (ss:List Int),e=rW v/\ss.Perm (intKeys D) /\
   w'.ownsRow w.heap.size 2 1 v ss.length ((ss.mergeSort leI).map (Value.int .i64))/\Bl w w':=by
 refine(callsIn_wide (n:=5)).1 ?_;have Y:=J.lt;have Jc:SeqGives Fence.wide 2 prog 192 #[pV w.heap.size] encZ (λss=>ss.Perm (intKeys D)) (Maps.size D) (w.alloc (.cells #[.map (some b)] 243)):=
  AnyZI.keys_gives (ρ:= Tryz.keysA_ren) {Tryz.keysA with} Fence.wide _ trivial rfl o_ w.heap.size b nn D _ i_ i_ (by
   obtain⟨es,Z,h,U,hs,hD⟩:=J;exact⟨es,Z,(Below.heap_alloc _ _ b Y).trans h,U,hs,hD⟩)
 have I:=AnyZI.sorted_in Tryz.sortedA Fence.wide 5 trivial trivial trivial trivial rfl o_ (CQ _) (enters_of func191 k_ rfl) 192 #[pV w.heap.size] trivial (enters_of func192 k_ rfl) _ _ (by unfold maxLen;omega) o_ _ Jc;change CallsIn _ _ prog 159 _ _ _ at I;refine I.mono ?_;rintro e w' ⟨v,ss,rfl,hS,Jd,Je,h⟩;exact⟨v,ss,rfl,hS,ownsRow_base_a Jd i_,((Below.refl _ w).alloc n_ _).trans (h.mono i_)⟩
def yr{P:Program}{k:GC}{R:BY->Option (DataW Unit×List MemPlace)}{w:AT}{b n:Nat}{D:DataW Unit}(h:w.ownsMap P k R b n D):Maps.size D<=n:=by
 obtain⟨U,J,Y,F,I,rfl⟩:=h;rw[Maps.size_eq,length_sorted];simpa using I
end Go.Proofs.YtffnkkpmlplfeaaGreatDoor
