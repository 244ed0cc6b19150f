import Derived.Test.YtngnoopnloojjaaGreatDoorQ05
import Derived.Deep.RegionHeld3
namespace Go.Proofs.YtngnoopnloojjaaGreatDoor
open List
open Go.Proofs.Tryz
set_option linter.all false
set_option maxRecDepth 100000
set_option maxHeartbeats 0
variable[Inhabited Pick]
section
open Go.RowKit
def tO(a b:Int)(w:AT)(h0:0<=a/\a<=127)(h2:0<=b/\b<=7):
  Calls prog 308 #[.int .u32 a,.int .u32 b,.int .u32 0] w λe w'=>e=rW (.int .u32 (a+b*4096))/\w'=w:=
 (yt a b 0 w h0 h2 o_).mono λe w' ⟨he,hw⟩=>⟨he.trans (dL o_),hw⟩
def gh(op rd s1 s2 im:Int)(w:AT):Calls prog 301 #[.agg #[V op,V rd,V s1,V s2,V im]] w λe w'=>e=rW (.int .u32 (bA (rd%4294967296) 0 5 7))/\w'=w.alloc (.cells #[V op,V rd,V s1,V s2,V im] 84):=by go_in;go_wp2_with(go_at_call 300;refine(aO _ _ _ _ _ o_ o_ o_ o_).mono ?_;rintro e w' ⟨rfl,rfl⟩);go_ret;exact⟨rfl,rfl⟩
def e_(op rd s1 s2 im:Int)(w:AT):Calls prog 309 #[.agg #[V op,V rd,V s1,V s2,V im]] w λe w'=>e=rW (.int .u32 (bA (s1%4294967296) 0 5 15))/\w'=w.alloc (.cells #[V op,V rd,V s1,V s2,V im] 84):=by go_in;go_wp2_with(go_at_call 300;refine(aO _ _ _ _ _ o_ o_ o_ o_).mono ?_;rintro e w' ⟨rfl,rfl⟩);go_ret;exact⟨rfl,rfl⟩
def e8(op rd s1 s2 im:Int)(w:AT):Calls prog 313 #[.agg #[V op,V rd,V s1,V s2,V im]] w λe w'=>e=rW (.int .u32 (bA (s2%4294967296) 0 5 20))/\w'=w.alloc (.cells #[V op,V rd,V s1,V s2,V im] 84):=by go_in;go_wp2_with(go_at_call 300;refine(aO _ _ _ _ _ o_ o_ o_ o_).mono ?_;rintro e w' ⟨rfl,rfl⟩);go_ret;exact⟨rfl,rfl⟩
def ec(v:Int)(w:AT)(h:0<=v/\v<=4294967295):Calls prog 299 #[.int .u32 v] w λe w'=>e=rW (V (bA v 7 5 0))/\w'=w:=by have H:=gg v 7 5 0;go_in;go_wp2_with(go_at_call 300;refine(aO _ _ _ _ _ o_ o_ o_ o_).mono ?_;rintro e w' ⟨rfl,rfl⟩);go_ret;exact⟨rfl,rfl⟩
def dw(v:Int)(w:AT)(h:0<=v/\v<=4294967295):Calls prog 307 #[.int .u32 v] w λe w'=>e=rW (V (bA v 15 5 0))/\w'=w:=by have H:=gg v 15 5 0;go_in;go_wp2_with(go_at_call 300;refine(aO _ _ _ _ _ o_ o_ o_ o_).mono ?_;rintro e w' ⟨rfl,rfl⟩);go_ret;exact⟨rfl,rfl⟩
def dx(v:Int)(w:AT)(h:0<=v/\v<=4294967295):Calls prog 312 #[.int .u32 v] w λe w'=>e=rW (V (bA v 20 5 0))/\w'=w:=by have H:=gg v 20 5 0;go_in;go_wp2_with(go_at_call 300;refine(aO _ _ _ _ _ o_ o_ o_ o_).mono ?_;rintro e w' ⟨rfl,rfl⟩);go_ret;exact⟨rfl,rfl⟩
end
section
open Go.RowKit
theorem MN(o f g op rd s1 s2 im:Int)(w:World)(I:0<=o/\o<=127)(H:0<=f/\f<=7)(J:0<=g/\g<=127):
  Calls prog 319 #[.agg #[.int .u32 o,.int .u32 f,.int .u32 g],.agg #[V op,V rd,V s1,V s2,V im]] w λe w'=>e=rW (.int .u32 (o+rd%32*128+f*4096+s1%32*32768+s2%32*1048576+g*33554432))/\Below w.heap.size w w':=by
 have Ja:Bl w ((w.alloc (.cells #[.int .u32 o,.int .u32 f,.int .u32 g] 158)).alloc (.cells #[V op,V rd,V s1,V s2,V im] 84)):=(aq _ _).alloc i_ _;go_in;go_wp2_with(go_at_call 300;refine(aO _ _ _ _ _ (by first|omega|(rw[IntKind.wrap_u32'];omega)) o_ o_ o_).mono ?_;rintro e w' ⟨rfl,rfl⟩)
 go_region_held3 (λW=>W.cell? ⟨w.heap.size,0,none⟩=some (.int .u32 o)/\W.cell? ⟨w.heap.size,1,none⟩=some (.int .u32 f)/\W.cell? ⟨w.heap.size,2,none⟩=some (.int .u32 g) /\
   W.cell? ⟨w.heap.size+1,0,none⟩=some (V op)/\W.cell? ⟨w.heap.size+1,1,none⟩=some (V rd)/\W.cell? ⟨w.heap.size+1,2,none⟩=some (V s1)/\W.cell? ⟨w.heap.size+1,3,none⟩=some (V s2)/\W.cell? ⟨w.heap.size+1,4,none⟩=some (V im)) (go_simp)
  (first
  | (go_at_call 308;refine(yt _ _ _ _ I H J).mono ?_;rintro e w' ⟨rfl,rfl⟩)
  | (go_at_call 301;refine(gh _ _ _ _ _ _).mono ?_;rintro e w' ⟨rfl,rfl⟩)
  | (go_at_call 309;refine(e_ _ _ _ _ _ _).mono ?_;rintro e w' ⟨rfl,rfl⟩)
  | (go_at_call 313;refine(e8 _ _ _ _ _ _).mono ?_;rintro e w' ⟨rfl,rfl⟩)
  | (go_at_call 300;refine(aO _ _ _ _ _ (by first|omega|(rw[IntKind.wrap_u32'];omega)) o_ o_ o_).mono ?_;rintro e w' ⟨rfl,rfl⟩))
 all_goals go_wp2
 all_goals go_ret
 all_goals refine⟨dL ?_,?_⟩
 all_goals first
  | (simp only[mvi_0_5_7,mvi_0_5_15,mvi_0_5_20];rw[PE o f g _ _ _ I H J o_ o_ o_];omega)
  | (repeat (first|exact Ja|exact Ja.drew|refine Below.alloc ?_ (by simp;omega) _|refine Below.drew ?_))
theorem Kn(o f op rd s1 s2 im:Int)(w:World)(I:0<=o/\o<=127)(H:0<=f/\f<=7):
  Calls prog 306 #[.agg #[.int .u32 o,.int .u32 f],.agg #[V op,V rd,V s1,V s2,V im]] w λe w'=>e=rW (.int .u32 (o+rd%32*128+f*4096+s1%32*32768+im%4096*1048576))/\Below w.heap.size w w':=by
 have Ja:Bl w ((w.alloc (.cells #[.int .u32 o,.int .u32 f] 153)).alloc (.cells #[V op,V rd,V s1,V s2,V im] 84)):=(aq _ _).alloc i_ _;go_in;go_wp2_with(go_at_call 300;refine(aO _ _ _ _ _ (by first|omega|(rw[IntKind.wrap_u32'];omega)) o_ o_ o_).mono ?_;rintro e w' ⟨rfl,rfl⟩)
 go_region_held3 (λW=>W.cell? ⟨w.heap.size,0,none⟩=some (.int .u32 o)/\W.cell? ⟨w.heap.size,1,none⟩=some (.int .u32 f) /\
   W.cell? ⟨w.heap.size+1,0,none⟩=some (V op)/\W.cell? ⟨w.heap.size+1,1,none⟩=some (V rd)/\W.cell? ⟨w.heap.size+1,2,none⟩=some (V s1)/\W.cell? ⟨w.heap.size+1,3,none⟩=some (V s2)/\W.cell? ⟨w.heap.size+1,4,none⟩=some (V im)) (go_simp)
  (first
  | (go_at_call 308;refine(tO _ _ _ I H).mono ?_;rintro e w' ⟨rfl,rfl⟩)
  | (go_at_call 301;refine(gh _ _ _ _ _ _).mono ?_;rintro e w' ⟨rfl,rfl⟩)
  | (go_at_call 309;refine(e_ _ _ _ _ _ _).mono ?_;rintro e w' ⟨rfl,rfl⟩)
  | (go_at_call 313;refine(e8 _ _ _ _ _ _).mono ?_;rintro e w' ⟨rfl,rfl⟩)
  | (go_at_call 300;refine(aO _ _ _ _ _ (by first|omega|(rw[IntKind.wrap_u32'];omega)) o_ o_ o_).mono ?_;rintro e w' ⟨rfl,rfl⟩))
 all_goals go_wp2
 all_goals go_ret
 all_goals refine⟨dL ?_,?_⟩
 all_goals first
  | (simp only[IntKind.wrap_u32',mvi_0_5_7,mvi_0_5_15,vk];rw[PU o f _ _ _ I H o_ o_ o_];omega)
  | (repeat (first|exact Ja|exact Ja.drew|refine Below.alloc ?_ (by simp;omega) _|refine Below.drew ?_))
theorem MO(o f g op rd s1 s2 im:Int)(w:World)(I:0<=o/\o<=127)(H:0<=f/\f<=7)(J:0<=g/\g<=127):
  Calls prog 317 #[.agg #[.int .u32 o,.int .u32 f,.int .u32 g],.agg #[V op,V rd,V s1,V s2,V im]] w λe w'=>e=rW (.int .u32 (o+rd%32*128+f*4096+s1%32*32768+im%32*1048576+g*33554432))/\Below w.heap.size w w':=by
 have Ja:Bl w ((w.alloc (.cells #[.int .u32 o,.int .u32 f,.int .u32 g] 157)).alloc (.cells #[V op,V rd,V s1,V s2,V im] 84)):=(aq _ _).alloc i_ _;go_in;go_wp2_with(go_at_call 300;refine(aO _ _ _ _ _ (by first|omega|(rw[IntKind.wrap_u32'];omega)) o_ o_ o_).mono ?_;rintro e w' ⟨rfl,rfl⟩)
 go_region_held3 (λW=>W.cell? ⟨w.heap.size,0,none⟩=some (.int .u32 o)/\W.cell? ⟨w.heap.size,1,none⟩=some (.int .u32 f)/\W.cell? ⟨w.heap.size,2,none⟩=some (.int .u32 g) /\
   W.cell? ⟨w.heap.size+1,0,none⟩=some (V op)/\W.cell? ⟨w.heap.size+1,1,none⟩=some (V rd)/\W.cell? ⟨w.heap.size+1,2,none⟩=some (V s1)/\W.cell? ⟨w.heap.size+1,3,none⟩=some (V s2)/\W.cell? ⟨w.heap.size+1,4,none⟩=some (V im)) (go_simp)
  (first
  | (go_at_call 308;refine(yt _ _ _ _ I H J).mono ?_;rintro e w' ⟨rfl,rfl⟩)
  | (go_at_call 301;refine(gh _ _ _ _ _ _).mono ?_;rintro e w' ⟨rfl,rfl⟩)
  | (go_at_call 309;refine(e_ _ _ _ _ _ _).mono ?_;rintro e w' ⟨rfl,rfl⟩)
  | (go_at_call 313;refine(e8 _ _ _ _ _ _).mono ?_;rintro e w' ⟨rfl,rfl⟩)
  | (go_at_call 300;refine(aO _ _ _ _ _ (by first|omega|(rw[IntKind.wrap_u32'];omega)) o_ o_ o_).mono ?_;rintro e w' ⟨rfl,rfl⟩))
 all_goals go_wp2
 all_goals go_ret
 all_goals refine⟨dL ?_,?_⟩
 all_goals first
  | (simp only[IntKind.wrap_u32',mvi_0_5_7,mvi_0_5_15,mvi_0_5_20];rw[PE o f g _ _ _ I H J o_ o_ o_];omega)
  | (repeat (first|exact Ja|exact Ja.drew|refine Below.alloc ?_ (by simp;omega) _|refine Below.drew ?_))
theorem MP(o f op rd s1 s2 im:Int)(w:World)(I:0<=o/\o<=127)(H:0<=f/\f<=7):
  Calls prog 315 #[.agg #[.int .u32 o,.int .u32 f],.agg #[V op,V rd,V s1,V s2,V im]] w λe w'=>e=rW (.int .u32 (o+im%32*128+f*4096+s1%32*32768+s2%32*1048576+im / 32%128*33554432))/\Below w.heap.size w w':=by
 have Ja:Bl w ((w.alloc (.cells #[.int .u32 o,.int .u32 f] 155)).alloc (.cells #[V op,V rd,V s1,V s2,V im] 84)):=(aq _ _).alloc i_ _;go_in;go_wp2_with(go_at_call 300;refine(aO _ _ _ _ _ (by first|omega|(rw[IntKind.wrap_u32'];omega)) o_ o_ o_).mono ?_;rintro e w' ⟨rfl,rfl⟩)
 go_region_held3 (λW=>W.cell? ⟨w.heap.size,0,none⟩=some (.int .u32 o)/\W.cell? ⟨w.heap.size,1,none⟩=some (.int .u32 f) /\
   W.cell? ⟨w.heap.size+1,0,none⟩=some (V op)/\W.cell? ⟨w.heap.size+1,1,none⟩=some (V rd)/\W.cell? ⟨w.heap.size+1,2,none⟩=some (V s1)/\W.cell? ⟨w.heap.size+1,3,none⟩=some (V s2)/\W.cell? ⟨w.heap.size+1,4,none⟩=some (V im)) (go_simp)
  (first
  | (go_at_call 308;refine(tO _ _ _ I H).mono ?_;rintro e w' ⟨rfl,rfl⟩)
  | (go_at_call 301;refine(gh _ _ _ _ _ _).mono ?_;rintro e w' ⟨rfl,rfl⟩)
  | (go_at_call 309;refine(e_ _ _ _ _ _ _).mono ?_;rintro e w' ⟨rfl,rfl⟩)
  | (go_at_call 313;refine(e8 _ _ _ _ _ _).mono ?_;rintro e w' ⟨rfl,rfl⟩)
  | (go_at_call 300;refine(aO _ _ _ _ _ (by first|omega|(rw[IntKind.wrap_u32'];omega)) o_ o_ o_).mono ?_;rintro e w' ⟨rfl,rfl⟩))
 all_goals go_wp2
 all_goals go_ret
 all_goals refine⟨dL ?_,?_⟩
 all_goals first
  | (simp only[mvi_0_5_15,mvi_0_5_20,mvi_0_5_7,yu];rw[PV o f _ _ _ _ I H o_ o_ o_ o_];omega)
  | (repeat (first|exact Ja|exact Ja.drew|refine Below.alloc ?_ (by simp;omega) _|refine Below.drew ?_))
theorem MQ(o f op rd s1 s2 im:Int)(w:World)(I:0<=o/\o<=127)(H:0<=f/\f<=7):
  Calls prog 311 #[.agg #[.int .u32 o,.int .u32 f],.agg #[V op,V rd,V s1,V s2,V im]] w λe w'=>e=rW (.int .u32 (o+im / 2048%2*128+im / 2%16*256+f*4096+s1%32*32768+s2%32*1048576+im / 32%64*33554432+im / 4096%2*2147483648))/\Below w.heap.size w w':=by
 have Ja:Bl w ((w.alloc (.cells #[.int .u32 o,.int .u32 f] 154)).alloc (.cells #[V op,V rd,V s1,V s2,V im] 84)):=(aq _ _).alloc i_ _;go_in;go_wp2_with(go_at_call 300;refine(aO _ _ _ _ _ (by first|omega|(rw[IntKind.wrap_u32'];omega)) o_ o_ o_).mono ?_;rintro e w' ⟨rfl,rfl⟩)
 go_region_held3 (λW=>W.cell? ⟨w.heap.size,0,none⟩=some (.int .u32 o)/\W.cell? ⟨w.heap.size,1,none⟩=some (.int .u32 f) /\
   W.cell? ⟨w.heap.size+1,0,none⟩=some (V op)/\W.cell? ⟨w.heap.size+1,1,none⟩=some (V rd)/\W.cell? ⟨w.heap.size+1,2,none⟩=some (V s1)/\W.cell? ⟨w.heap.size+1,3,none⟩=some (V s2)/\W.cell? ⟨w.heap.size+1,4,none⟩=some (V im)) (go_simp)
  (first
  | (go_at_call 308;refine(tO _ _ _ I H).mono ?_;rintro e w' ⟨rfl,rfl⟩)
  | (go_at_call 301;refine(gh _ _ _ _ _ _).mono ?_;rintro e w' ⟨rfl,rfl⟩)
  | (go_at_call 309;refine(e_ _ _ _ _ _ _).mono ?_;rintro e w' ⟨rfl,rfl⟩)
  | (go_at_call 313;refine(e8 _ _ _ _ _ _).mono ?_;rintro e w' ⟨rfl,rfl⟩)
  | (go_at_call 300;refine(aO _ _ _ _ _ (by first|omega|(rw[IntKind.wrap_u32'];omega)) o_ o_ o_).mono ?_;rintro e w' ⟨rfl,rfl⟩))
 all_goals go_wp2
 all_goals go_ret
 all_goals refine⟨dL ?_,?_⟩
 all_goals first
  | (simp only[mvi_0_5_15,mvi_0_5_20,mvi_11_1_7,mvi_1_4_8,mvi_5_6_25,vt];rw[OQ _ _ _ _ o_ o_ o_ o_,PW o f _ _ _ _ _ _ I H o_ o_ o_ o_ o_ o_];omega)
  | (repeat (first|exact Ja|exact Ja.drew|refine Below.alloc ?_ (by simp;omega) _|refine Below.drew ?_))
theorem MR(o op rd s1 s2 im:Int)(w:World)(H:0<=o/\o<=127):
  Calls prog 298 #[.agg #[.int .u32 o],.agg #[V op,V rd,V s1,V s2,V im]] w λe w'=>e=rW (.int .u32 (o+rd%32*128+im%1048576*4096))/\Below w.heap.size w w':=by
 have Ja:Bl w ((w.alloc (.cells #[.int .u32 o] 150)).alloc (.cells #[V op,V rd,V s1,V s2,V im] 84)):=(aq _ _).alloc i_ _;go_in;go_wp2_with(go_at_call 300;refine(aO _ _ _ _ _ (by first|omega|(rw[IntKind.wrap_u32'];omega)) o_ o_ o_).mono ?_;rintro e w' ⟨rfl,rfl⟩)
 go_region_held3 (λW=>W.cell? ⟨w.heap.size,0,none⟩=some (.int .u32 o) /\
   W.cell? ⟨w.heap.size+1,0,none⟩=some (V op)/\W.cell? ⟨w.heap.size+1,1,none⟩=some (V rd)/\W.cell? ⟨w.heap.size+1,2,none⟩=some (V s1)/\W.cell? ⟨w.heap.size+1,3,none⟩=some (V s2)/\W.cell? ⟨w.heap.size+1,4,none⟩=some (V im)) (go_simp)
  (first
  | (go_at_call 301;refine(gh _ _ _ _ _ _).mono ?_;rintro e w' ⟨rfl,rfl⟩)
  | (go_at_call 309;refine(e_ _ _ _ _ _ _).mono ?_;rintro e w' ⟨rfl,rfl⟩)
  | (go_at_call 313;refine(e8 _ _ _ _ _ _).mono ?_;rintro e w' ⟨rfl,rfl⟩)
  | (go_at_call 300;refine(aO _ _ _ _ _ (by first|omega|(rw[IntKind.wrap_u32'];omega)) o_ o_ o_).mono ?_;rintro e w' ⟨rfl,rfl⟩))
 all_goals go_wp2
 all_goals go_ret
 all_goals refine⟨dL ?_,?_⟩
 all_goals first
  | (simp only[IntKind.wrap_u32',mvi_0_5_7,vq];rw[PX o _ _ H o_ o_];omega)
  | (repeat (first|exact Ja|exact Ja.drew|refine Below.alloc ?_ (by simp;omega) _|refine Below.drew ?_))
theorem MS(o op rd s1 s2 im:Int)(w:World)(H:0<=o/\o<=127):
  Calls prog 303 #[.agg #[.int .u32 o],.agg #[V op,V rd,V s1,V s2,V im]] w λe w'=>e=rW (.int .u32 (o+rd%32*128+im / 4096%256*4096+im / 2048%2*1048576+im / 2%1024*2097152+im / 1048576%2*2147483648))/\Below w.heap.size w w':=by
 have Ja:Bl w ((w.alloc (.cells #[.int .u32 o] 151)).alloc (.cells #[V op,V rd,V s1,V s2,V im] 84)):=(aq _ _).alloc i_ _;go_in;go_wp2_with(go_at_call 300;refine(aO _ _ _ _ _ (by first|omega|(rw[IntKind.wrap_u32'];omega)) o_ o_ o_).mono ?_;rintro e w' ⟨rfl,rfl⟩)
 go_region_held3 (λW=>W.cell? ⟨w.heap.size,0,none⟩=some (.int .u32 o) /\
   W.cell? ⟨w.heap.size+1,0,none⟩=some (V op)/\W.cell? ⟨w.heap.size+1,1,none⟩=some (V rd)/\W.cell? ⟨w.heap.size+1,2,none⟩=some (V s1)/\W.cell? ⟨w.heap.size+1,3,none⟩=some (V s2)/\W.cell? ⟨w.heap.size+1,4,none⟩=some (V im)) (go_simp)
  (first
  | (go_at_call 301;refine(gh _ _ _ _ _ _).mono ?_;rintro e w' ⟨rfl,rfl⟩)
  | (go_at_call 309;refine(e_ _ _ _ _ _ _).mono ?_;rintro e w' ⟨rfl,rfl⟩)
  | (go_at_call 313;refine(e8 _ _ _ _ _ _).mono ?_;rintro e w' ⟨rfl,rfl⟩)
  | (go_at_call 300;refine(aO _ _ _ _ _ (by first|omega|(rw[IntKind.wrap_u32'];omega)) o_ o_ o_).mono ?_;rintro e w' ⟨rfl,rfl⟩))
 all_goals go_wp2
 all_goals go_ret
 all_goals refine⟨dL ?_,?_⟩
 all_goals first
  | (simp only[mvi_0_5_7,mvi_12_8_12,mvi_11_1_20,mvi_1_10_21,vv];rw[OR _ _ _ _ o_ o_ o_ o_,PY o _ _ _ _ _ H o_ o_ o_ o_ o_];omega)
  | (repeat (first|exact Ja|exact Ja.drew|refine Below.alloc ?_ (by simp;omega) _|refine Below.drew ?_))
def MT(o op rd s1 s2 im:Int)(w:AT)(H:0<=o/\o<=127):
  Calls prog 321 #[.agg #[.int .u32 o],.agg #[V op,V rd,V s1,V s2,V im]] w λe w'=>e=rW (.int .u32 (o))/\Bl w w':=by
 have Ja:Bl w ((w.alloc (.cells #[.int .u32 o] 159)).alloc (.cells #[V op,V rd,V s1,V s2,V im] 84)):=(aq _ _).alloc i_ _;go_in;go_wp2;go_ret;exact⟨rfl,by first|exact r_.alloc n_ _|exact Ja⟩
end
section
open Go.RowKit
def sg(x h m:Int):Int:=if x≥h then x-m else x
def nO(a b:Int):0<=bits .or .u32 a b/\bits .or .u32 a b<=4294967295:=by unfold bits;dsimp only;rw[IntKind.wrap_u32'];omega
theorem MU(o f g v:Int)(w:AT)(H:0<=v/\v<=4294967295):
  Calls prog 318 #[.agg #[.int .u32 o,.int .u32 f,.int .u32 g],.int .u32 v] w λe w'=>e=rW (.agg #[V (0),V (v / 128%32),V (v / 32768%32),V (v / 1048576%32),V (0)])/\Bl w w':=by
 have E:Hid ((Ending.returned (.agg #[V (0),V (bA v 7 5 0),V (bA v 15 5 0),V (bA v 20 5 0),V (0)]):Ending)=rW (.agg #[V (0),V (v / 128%32),V (v / 32768%32),V (v / 1048576%32),V (0)])):=by rw[mvi_7_5_0,mvi_15_5_0,jA];exact Eq.refl _
 go_in;go_wp2_with(first
  | (go_at_call 299;refine(ec _ _ H).mono ?_;rintro e w' ⟨rfl,rfl⟩)
  | (go_at_call 307;refine(dw _ _ H).mono ?_;rintro e w' ⟨rfl,rfl⟩)
  | (go_at_call 312;refine(dx _ _ H).mono ?_;rintro e w' ⟨rfl,rfl⟩)
  | (go_at_call 304;refine(j4 _ _ _ (by first|exact gg _ _ _ _|exact nO _ _) o_).mono ?_;rintro e w' ⟨rfl,rfl⟩)
  | (go_at_call 300;refine(aO _ _ _ _ _ H o_ o_ o_).mono ?_;rintro e w' ⟨rfl,rfl⟩))
 refine bodyPost_ret (v:=.agg #[V (0),V (bA v 7 5 0),V (bA v 15 5 0),V (bA v 20 5 0),V (0)]) (by simp[results,results318,go_sem]) rfl ⟨E.o,?_⟩;first|exact r_.alloc n_ _|exact(aq _ _).alloc i_ _
def O2(v:Int)(h:0<=v/\v<=4294967295):si (bA v 20 12 0) 12=sg (v / 1048576%4096) 2048 4096:=by simp only[vw];rw[Ef _ o_];rfl
theorem MV(o f v:Int)(w:AT)(H:0<=v/\v<=4294967295):
  Calls prog 305 #[.agg #[.int .u32 o,.int .u32 f],.int .u32 v] w λe w'=>e=rW (.agg #[V (0),V (v / 128%32),V (v / 32768%32),V (0),V (sg (v / 1048576%4096) 2048 4096)])/\Bl w w':=by
 have E:Hid ((Ending.returned (.agg #[V (0),V (bA v 7 5 0),V (bA v 15 5 0),V (0),V (si (bA v 20 12 0) 12)]):Ending)=rW (.agg #[V (0),V (v / 128%32),V (v / 32768%32),V (0),V (sg (v / 1048576%4096) 2048 4096)])):=by rw[O2 v H,mvi_7_5_0,mvi_15_5_0];exact Eq.refl _
 go_in;go_wp2_with(first
  | (go_at_call 299;refine(ec _ _ H).mono ?_;rintro e w' ⟨rfl,rfl⟩)
  | (go_at_call 307;refine(dw _ _ H).mono ?_;rintro e w' ⟨rfl,rfl⟩)
  | (go_at_call 312;refine(dx _ _ H).mono ?_;rintro e w' ⟨rfl,rfl⟩)
  | (go_at_call 304;refine(j4 _ _ _ (by first|exact gg _ _ _ _|exact nO _ _) o_).mono ?_;rintro e w' ⟨rfl,rfl⟩)
  | (go_at_call 300;refine(aO _ _ _ _ _ H o_ o_ o_).mono ?_;rintro e w' ⟨rfl,rfl⟩))
 refine bodyPost_ret (v:=.agg #[V (0),V (bA v 7 5 0),V (bA v 15 5 0),V (0),V (si (bA v 20 12 0) 12)]) (by simp[results,results305,go_sem]) rfl ⟨E.o,?_⟩;first|exact r_.alloc n_ _|exact(aq _ _).alloc i_ _
def O3(v:Int)(h:0<=v/\v<=4294967295):bA v 20 5 0=v / 1048576%32:=by simp only[jA]
theorem MX(o f g v:Int)(w:AT)(H:0<=v/\v<=4294967295):
  Calls prog 316 #[.agg #[.int .u32 o,.int .u32 f,.int .u32 g],.int .u32 v] w λe w'=>e=rW (.agg #[V (0),V (v / 128%32),V (v / 32768%32),V (0),V (v / 1048576%32)])/\Bl w w':=by
 have Ja:=gg v 20 5 0;have E:Hid ((Ending.returned (.agg #[V (0),V (bA v 7 5 0),V (bA v 15 5 0),V (0),V (bA v 20 5 0)]):Ending)=rW (.agg #[V (0),V (v / 128%32),V (v / 32768%32),V (0),V (v / 1048576%32)])):=by rw[O3 v H,mvi_7_5_0,mvi_15_5_0];exact Eq.refl _
 go_in;go_wp2_with(first
  | (go_at_call 299;refine(ec _ _ H).mono ?_;rintro e w' ⟨rfl,rfl⟩)
  | (go_at_call 307;refine(dw _ _ H).mono ?_;rintro e w' ⟨rfl,rfl⟩)
  | (go_at_call 312;refine(dx _ _ H).mono ?_;rintro e w' ⟨rfl,rfl⟩)
  | (go_at_call 304;refine(j4 _ _ _ (by first|exact gg _ _ _ _|exact nO _ _) o_).mono ?_;rintro e w' ⟨rfl,rfl⟩)
  | (go_at_call 300;refine(aO _ _ _ _ _ H o_ o_ o_).mono ?_;rintro e w' ⟨rfl,rfl⟩))
 refine bodyPost_ret (v:=.agg #[V (0),V (bA v 7 5 0),V (bA v 15 5 0),V (0),V (bA v 20 5 0)]) (by simp[results,results316,go_sem]) rfl ⟨E.o,?_⟩;first|exact r_.alloc n_ _|exact(aq _ _).alloc i_ _
def O4(v:Int)(h:0<=v/\v<=4294967295):si (bits .or .u32 (bA v 7 5 0) (bA v 25 7 5)) 12=sg (v / 128%32+v / 33554432%128*32) 2048 4096:=by simp only[mvi_7_5_0,yz];rw[OS _ _ o_ o_];rw[Ef _ o_];rfl
theorem MY(o f v:Int)(w:AT)(H:0<=v/\v<=4294967295):
  Calls prog 314 #[.agg #[.int .u32 o,.int .u32 f],.int .u32 v] w λe w'=>e=rW (.agg #[V (0),V (0),V (v / 32768%32),V (v / 1048576%32),V (sg (v / 128%32+v / 33554432%128*32) 2048 4096)])/\Bl w w':=by
 have E:Hid ((Ending.returned (.agg #[V (0),V (0),V (bA v 15 5 0),V (bA v 20 5 0),V (si (bits .or .u32 (bA v 7 5 0) (bA v 25 7 5)) 12)]):Ending)=rW (.agg #[V (0),V (0),V (v / 32768%32),V (v / 1048576%32),V (sg (v / 128%32+v / 33554432%128*32) 2048 4096)])):=by rw[O4 v H,mvi_15_5_0,jA];exact Eq.refl _
 go_in;go_wp2_with(first
  | (go_at_call 299;refine(ec _ _ H).mono ?_;rintro e w' ⟨rfl,rfl⟩)
  | (go_at_call 307;refine(dw _ _ H).mono ?_;rintro e w' ⟨rfl,rfl⟩)
  | (go_at_call 312;refine(dx _ _ H).mono ?_;rintro e w' ⟨rfl,rfl⟩)
  | (go_at_call 304;refine(j4 _ _ _ (by first|exact gg _ _ _ _|exact nO _ _) o_).mono ?_;rintro e w' ⟨rfl,rfl⟩)
  | (go_at_call 300;refine(aO _ _ _ _ _ H o_ o_ o_).mono ?_;rintro e w' ⟨rfl,rfl⟩))
 refine bodyPost_ret (v:=.agg #[V (0),V (0),V (bA v 15 5 0),V (bA v 20 5 0),V (si (bits .or .u32 (bA v 7 5 0) (bA v 25 7 5)) 12)]) (by simp[results,results314,go_sem]) rfl ⟨E.o,?_⟩;first|exact r_.alloc n_ _|exact(aq _ _).alloc i_ _
def O5(v:Int)(h:0<=v/\v<=4294967295):si (bits .or .u32 (bits .or .u32 (bits .or .u32 (bA v 7 1 11) (bA v 8 4 1)) (bA v 25 6 5)) (bA v 31 1 12)) 13=sg (v / 256%16*2+v / 33554432%64*32+v / 128%2*2048+v / 2147483648%2*4096) 4096 8192:=by simp only[yw,mvi_8_4_1,mvi_25_6_5,vy];rw[OT _ _ _ _ o_ o_ o_ o_];rw[Kl _ o_];rfl
theorem MZ(o f v:Int)(w:AT)(H:0<=v/\v<=4294967295):
  Calls prog 310 #[.agg #[.int .u32 o,.int .u32 f],.int .u32 v] w λe w'=>e=rW (.agg #[V (0),V (0),V (v / 32768%32),V (v / 1048576%32),V (sg (v / 256%16*2+v / 33554432%64*32+v / 128%2*2048+v / 2147483648%2*4096) 4096 8192)])/\Bl w w':=by
 have E:Hid ((Ending.returned (.agg #[V (0),V (0),V (bA v 15 5 0),V (bA v 20 5 0),V (si (bits .or .u32 (bits .or .u32 (bits .or .u32 (bA v 7 1 11) (bA v 8 4 1)) (bA v 25 6 5)) (bA v 31 1 12)) 13)]):Ending)=rW (.agg #[V (0),V (0),V (v / 32768%32),V (v / 1048576%32),V (sg (v / 256%16*2+v / 33554432%64*32+v / 128%2*2048+v / 2147483648%2*4096) 4096 8192)])):=by rw[O5 v H,mvi_15_5_0,jA];exact Eq.refl _
 go_in;go_wp2_with(first
  | (go_at_call 299;refine(ec _ _ H).mono ?_;rintro e w' ⟨rfl,rfl⟩)
  | (go_at_call 307;refine(dw _ _ H).mono ?_;rintro e w' ⟨rfl,rfl⟩)
  | (go_at_call 312;refine(dx _ _ H).mono ?_;rintro e w' ⟨rfl,rfl⟩)
  | (go_at_call 304;refine(j4 _ _ _ (by first|exact gg _ _ _ _|exact nO _ _) o_).mono ?_;rintro e w' ⟨rfl,rfl⟩)
  | (go_at_call 300;refine(aO _ _ _ _ _ H o_ o_ o_).mono ?_;rintro e w' ⟨rfl,rfl⟩))
 refine bodyPost_ret (v:=.agg #[V (0),V (0),V (bA v 15 5 0),V (bA v 20 5 0),V (si (bits .or .u32 (bits .or .u32 (bits .or .u32 (bA v 7 1 11) (bA v 8 4 1)) (bA v 25 6 5)) (bA v 31 1 12)) 13)]) (by simp[results,results310,go_sem]) rfl ⟨E.o,?_⟩;first|exact r_.alloc n_ _|exact(aq _ _).alloc i_ _
def O6(v:Int)(h:0<=v/\v<=4294967295):bA v 12 20 0=v / 4096%1048576:=by simp only[vu]
theorem M_(o v:Int)(w:AT)(H:0<=v/\v<=4294967295):
  Calls prog 297 #[.agg #[.int .u32 o],.int .u32 v] w λe w'=>e=rW (.agg #[V (0),V (v / 128%32),V (0),V (0),V (v / 4096%1048576)])/\Bl w w':=by
 have Ja:=gg v 12 20 0;have E:Hid ((Ending.returned (.agg #[V (0),V (bA v 7 5 0),V (0),V (0),V (bA v 12 20 0)]):Ending)=rW (.agg #[V (0),V (v / 128%32),V (0),V (0),V (v / 4096%1048576)])):=by rw[O6 v H,mvi_7_5_0];exact Eq.refl _
 go_in;go_wp2_with(first
  | (go_at_call 299;refine(ec _ _ H).mono ?_;rintro e w' ⟨rfl,rfl⟩)
  | (go_at_call 307;refine(dw _ _ H).mono ?_;rintro e w' ⟨rfl,rfl⟩)
  | (go_at_call 312;refine(dx _ _ H).mono ?_;rintro e w' ⟨rfl,rfl⟩)
  | (go_at_call 304;refine(j4 _ _ _ (by first|exact gg _ _ _ _|exact nO _ _) o_).mono ?_;rintro e w' ⟨rfl,rfl⟩)
  | (go_at_call 300;refine(aO _ _ _ _ _ H o_ o_ o_).mono ?_;rintro e w' ⟨rfl,rfl⟩))
 refine bodyPost_ret (v:=.agg #[V (0),V (bA v 7 5 0),V (0),V (0),V (bA v 12 20 0)]) (by simp[results,results297,go_sem]) rfl ⟨E.o,?_⟩;first|exact r_.alloc n_ _|exact(aq _ _).alloc i_ _
def O7(v:Int)(h:0<=v/\v<=4294967295):si (bits .or .u32 (bits .or .u32 (bits .or .u32 (bA v 12 8 12) (bA v 20 1 11)) (bA v 21 10 1)) (bA v 31 1 20)) 21=sg (v / 2097152%1024*2+v / 1048576%2*2048+v / 4096%256*4096+v / 2147483648%2*1048576) 1048576 2097152:=by simp only[mvi_12_8_12,mvi_20_1_11,mvi_21_10_1,vz];rw[OU _ _ _ _ o_ o_ o_ o_];rw[Km _ o_];rfl
theorem M0(o v:Int)(w:AT)(H:0<=v/\v<=4294967295):
  Calls prog 302 #[.agg #[.int .u32 o],.int .u32 v] w λe w'=>e=rW (.agg #[V (0),V (v / 128%32),V (0),V (0),V (sg (v / 2097152%1024*2+v / 1048576%2*2048+v / 4096%256*4096+v / 2147483648%2*1048576) 1048576 2097152)])/\Bl w w':=by
 have E:Hid ((Ending.returned (.agg #[V (0),V (bA v 7 5 0),V (0),V (0),V (si (bits .or .u32 (bits .or .u32 (bits .or .u32 (bA v 12 8 12) (bA v 20 1 11)) (bA v 21 10 1)) (bA v 31 1 20)) 21)]):Ending)=rW (.agg #[V (0),V (v / 128%32),V (0),V (0),V (sg (v / 2097152%1024*2+v / 1048576%2*2048+v / 4096%256*4096+v / 2147483648%2*1048576) 1048576 2097152)])):=by rw[O7 v H,mvi_7_5_0];exact Eq.refl _
 go_in;go_wp2_with(first
  | (go_at_call 299;refine(ec _ _ H).mono ?_;rintro e w' ⟨rfl,rfl⟩)
  | (go_at_call 307;refine(dw _ _ H).mono ?_;rintro e w' ⟨rfl,rfl⟩)
  | (go_at_call 312;refine(dx _ _ H).mono ?_;rintro e w' ⟨rfl,rfl⟩)
  | (go_at_call 304;refine(j4 _ _ _ (by first|exact gg _ _ _ _|exact nO _ _) o_).mono ?_;rintro e w' ⟨rfl,rfl⟩)
  | (go_at_call 300;refine(aO _ _ _ _ _ H o_ o_ o_).mono ?_;rintro e w' ⟨rfl,rfl⟩))
 refine bodyPost_ret (v:=.agg #[V (0),V (bA v 7 5 0),V (0),V (0),V (si (bits .or .u32 (bits .or .u32 (bits .or .u32 (bA v 12 8 12) (bA v 20 1 11)) (bA v 21 10 1)) (bA v 31 1 20)) 21)]) (by simp[results,results302,go_sem]) rfl ⟨E.o,?_⟩;first|exact r_.alloc n_ _|exact(aq _ _).alloc i_ _
theorem M4(o v:Int)(w:AT)(H:0<=v/\v<=4294967295):
  Calls prog 320 #[.agg #[.int .u32 o],.int .u32 v] w λe w'=>e=rW (.agg #[V (0),V (0),V (0),V (0),V (0)])/\Bl w w':=by
 have E:Hid ((Ending.returned (.agg #[V (0),V (0),V (0),V (0),V (0)]):Ending)=rW (.agg #[V (0),V (0),V (0),V (0),V (0)])):=by exact Eq.refl _
 go_in;go_wp2_with(first
  | (go_at_call 299;refine(ec _ _ H).mono ?_;rintro e w' ⟨rfl,rfl⟩)
  | (go_at_call 307;refine(dw _ _ H).mono ?_;rintro e w' ⟨rfl,rfl⟩)
  | (go_at_call 312;refine(dx _ _ H).mono ?_;rintro e w' ⟨rfl,rfl⟩)
  | (go_at_call 304;refine(j4 _ _ _ (by first|exact gg _ _ _ _|exact nO _ _) o_).mono ?_;rintro e w' ⟨rfl,rfl⟩)
  | (go_at_call 300;refine(aO _ _ _ _ _ H o_ o_ o_).mono ?_;rintro e w' ⟨rfl,rfl⟩))
 refine bodyPost_ret (v:=.agg #[V (0),V (0),V (0),V (0),V (0)]) (by simp[results,results320,go_sem]) rfl ⟨rfl,?_⟩;first|exact r_.alloc n_ _|exact(aq _ _).alloc i_ _
end
section
open Go.RowKit
def PF:List Int:=[0,55,111,103,99,99,99,99,99,99,3,35,19,19,19,19,19,19,19,19,19,51,51,51,51,51,51,51,51,51,51,51,51,51,115]
def PG:List Int:=[0,0,0,0,0,1,4,5,6,7,2,2,0,2,3,4,6,7,1,5,5,0,0,1,2,3,4,5,5,6,7,0,4,6,0]
def PH:List Int:=[0,0,0,0,0,0,0,0,0,0,0,0,0,0,0,0,0,0,0,0,32,0,32,0,0,0,0,0,32,0,0,1,1,1,0]
def oc(op:Int):Int:=PF.getD op.toNat 0
def f3(op:Int):Int:=PG.getD op.toNat 0
def f7(op:Int):Int:=PH.getD op.toNat 0
def tP(l:List Int)(m:Int)(H:0<=m)(h:∀n,n<l.length->0<=l.getD n 0/\l.getD n 0<=m)(n:Nat):0<=l.getD n 0/\l.getD n 0<=m:=by
 by_cases hn:n<l.length;exact h n hn;have e:l.getD n 0=0:=by simp[List.getD,getElem?_eq_none (show l.length<=n by omega)]
 rw[e];omega
def lU(op:Int):0<=oc op/\oc op<=127:=tP PF 127 d_ d_ _
def sj(op:Int):0<=f3 op/\f3 op<=7:=tP PG 7 d_ d_ _
def Eg(op:Int):0<=f7 op/\f7 op<=127:=tP PH 127 d_ d_ _
end
end Go.Proofs.YtngnoopnloojjaaGreatDoor
