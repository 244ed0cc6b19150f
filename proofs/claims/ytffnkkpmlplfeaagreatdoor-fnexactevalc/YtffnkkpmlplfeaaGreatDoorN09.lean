import Derived.Test.YtffnkkpmlplfeaaGreatDoorN08
import Derived.Test.YtffnkkpmlplfeaaGreatDoorN02
namespace Go.Proofs.YtffnkkpmlplfeaaGreatDoor
open Go.Proofs.Tryz
open Go.RowKit Go.Sort Go.Shelf
set_option linter.all false
set_option maxRecDepth 100000
set_option maxHeartbeats 16000000
variable[Inhabited Pick]
theorem sortsA (m:Nat):AnyZI.SortsIn prog Tryz.sortedA_ren Fence.wide m:=
 ⟨λblk off cap ss W hH hblk hsz=>callsIn_wide.2 (AnyM.slices_Sort_int Tryz.sortA blk off cap ss W hH hblk hsz),
  λp cap W=>callsIn_wide.2 (AnyM.slices_Sort_int_none Tryz.sortA p cap W)⟩
theorem keys_any (mb:Option Nat) (w:World):Calls prog 160 #[.map mb] w λe w'=>e=.returned (.func (.func 192) #[] #[.pointer (some ⟨w.heap.size,0,none⟩)])/\w'=w.alloc (.cells #[.map mb] 243):=
 (callsIn_wide (n:=5)).1 (AnyZI.keys_in Tryz.keysA Fence.wide 5 trivial rfl mb w)
theorem sorted_any (b nn:Nat) (D:DataW Unit) (R:Value->Option (DataW Unit × List MemPlace)) (w:World) (hown:w.ownsMap prog 2 R b nn D) (hmax:Maps.size D<=10000000000000) :
  Calls prog 159 #[.func (.func 192) #[] #[.pointer (some ⟨w.heap.size,0,none⟩)]] (w.alloc (.cells #[.map (some b)] 243)) λe w'=>∃(v:Value) (ss:List Int),e=.returned v/\ss.Perm (intKeys D) /\
   w'.ownsRow w.heap.size 2 1 v ss.length ((ss.mergeSort leI).map (Value.int .i64))/\Below w.heap.size w w':=by
 refine (callsIn_wide (n:=5)).1 ?_;have hbl:=hown.lt;have hseq:SeqGives Fence.wide 2 prog 192 #[.pointer (some ⟨w.heap.size,0,none⟩)] encZ (λss=>ss.Perm (intKeys D)) (Maps.size D) (w.alloc (.cells #[.map (some b)] 243)):=
  AnyZI.keys_gives (ρ := Tryz.keysA_ren) {Tryz.keysA with} Fence.wide _ trivial rfl o_ w.heap.size b nn D _ (by simp) (by simp) (by
   obtain⟨es,clock,hb,Ft,hs,hD⟩:=hown;exact⟨es,clock,(Below.heap_alloc _ _ b hbl).trans hb,Ft,hs,hD⟩)
 have cS:=AnyZI.sorted_in Tryz.sortedA Fence.wide 5 trivial trivial trivial trivial rfl o_ (sortsA _) (enters_of func191 k_ rfl) 192 #[.pointer (some ⟨w.heap.size,0,none⟩)] trivial (enters_of func192 k_ rfl) _ _ (by unfold maxLen;omega) o_ _ hseq;change CallsIn _ _ prog 159 _ _ _ at cS
 refine cS.mono ?_;rintro e w' ⟨v,ss,rfl,hS,hrow,hnil,hb⟩;exact⟨v,ss,rfl,hS,ownsRow_base_a hrow (by simp),((Below.refl _ w).alloc n_ _).trans (hb.mono (by simp))⟩
theorem own_size {P:Program} {k:TypeId} {R:Value->Option (DataW Unit × List MemPlace)} {w:World} {b n:Nat} {D:DataW Unit} (h:w.ownsMap P k R b n D):Maps.size D<=n:=by
 obtain⟨es,clock,hb,F,hs,rfl⟩:=h;rw[Maps.size_eq,length_sorted];simpa using hs
end Go.Proofs.YtffnkkpmlplfeaaGreatDoor
