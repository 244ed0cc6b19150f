import Derived.Test.YtmddmgpijpjpbaaGreatDoorR15
import Derived.Deep.RegionHeldLaw
namespace Go.Proofs.YtmddmgpijpjpbaaGreatDoor
open Go.RowKit
set_option linter.unusedVariables false
set_option linter.unusedSimpArgs false
set_option maxRecDepth 100000
set_option maxHeartbeats 16000000
def encA (n:Nd):Value:=.agg #[.int .i64 n.kind,.int .i64 n.val,.string n.name]
theorem plain_num (v:Int) (w:World):Calls Tryz.prog 167 #[.iface 222 (.agg #[.int .i64 v])] w fun e w'=>e = .returned (encA ⟨1,v,⟨#[]⟩⟩)/\Below w.heap.size w w':=by
 have y:=as_num_yes
 have b0:Bl w w:=Below.refl _ _
 unfold encA
 go_enter Tryz.func167,Tryz.ntmps167
 go_wp2_with fail
 try simp only [Exit.inBlock,Exit.then]
 refine bodyPost_ret (by simp [results,Tryz.results167,go_sem];try rfl) rfl ?_
 exact ⟨rfl,(b0.alloc (Nat.le_refl _) _).alloc (by simp) _⟩
theorem plain_var (s:ByteArray) (w:World):Calls Tryz.prog 167 #[.iface 243 (.agg #[.string s])] w fun e w'=>e = .returned (encA ⟨2,0,s⟩)/\Below w.heap.size w w':=by
 have n1:=fun W v=>as_num_no W 243 v (by decide)
 have y:=as_var_yes
 have b0:Bl w w:=Below.refl _ _
 unfold encA
 go_enter Tryz.func167,Tryz.ntmps167
 go_wp2_with fail
 try simp only [Exit.inBlock,Exit.then]
 refine bodyPost_ret (by simp [results,Tryz.results167,go_sem];try rfl) rfl ?_
 exact ⟨rfl,(b0.alloc (Nat.le_refl _) _).alloc (by simp) _⟩
theorem plain_index (s:ByteArray) (tx:TypeId) (x:Value) (w:World):Calls Tryz.prog 167 #[.iface 245 (.agg #[.string s,.iface tx x])] w fun e w'=>e = .returned (encA ⟨3,0,s⟩)/\Below w.heap.size w w':=by
 have n1:=fun W v=>as_num_no W 245 v (by decide)
 have n2:=fun W v=>as_var_no W 245 v (by decide)
 have y:=as_index_yes
 have b0:Bl w w:=Below.refl _ _
 unfold encA
 go_enter Tryz.func167,Tryz.ntmps167
 go_wp2_with fail
 try simp only [Exit.inBlock,Exit.then]
 refine bodyPost_ret (by simp [results,Tryz.results167,go_sem];try rfl) rfl ?_
 exact ⟨rfl,(b0.alloc (Nat.le_refl _) _).alloc (by simp) _⟩
theorem plain_call (s:ByteArray) (a:Option Addr) (A cp:Nat) (w:World):Calls Tryz.prog 167 #[.iface 247 (.agg #[.string s,.slice a A cp])] w fun e w'=>e = .returned (encA ⟨4,A,s⟩)/\Below w.heap.size w w':=by
 have n1:=fun W v=>as_num_no W 247 v (by decide)
 have n2:=fun W v=>as_var_no W 247 v (by decide)
 have n3:=fun W v=>as_index_no W 247 v (by decide)
 have y:=as_call_yes
 have b0:Bl w w:=Below.refl _ _
 unfold encA
 go_enter Tryz.func167,Tryz.ntmps167
 go_wp2_with fail
 try simp only [Exit.inBlock,Exit.then]
 refine bodyPost_ret (by simp [results,Tryz.results167,go_sem];try rfl) rfl ?_
 exact ⟨rfl,(b0.alloc (Nat.le_refl _) _).alloc (by simp) _⟩
theorem plain_inn  (w:World):Calls Tryz.prog 167 #[.iface 256 (.agg #[])] w fun e w'=>e = .returned (encA ⟨5,0,⟨#[]⟩⟩)/\Below w.heap.size w w':=by
 have n1:=fun W v=>as_num_no W 256 v (by decide)
 have n2:=fun W v=>as_var_no W 256 v (by decide)
 have n3:=fun W v=>as_index_no W 256 v (by decide)
 have n4:=fun W v=>as_call_no W 256 v (by decide)
 have n5:=fun W v=>as_un_no W 256 v (by decide)
 have n6:=fun W v=>as_bin_no W 256 v (by decide)
 have n7:=fun W v=>as_and_no W 256 v (by decide)
 have n8:=fun W v=>as_or_no W 256 v (by decide)
 have b0:Bl w w:=Below.refl _ _
 unfold encA
 go_enter Tryz.func167,Tryz.ntmps167
 go_wp2_with fail
 try simp only [Exit.inBlock,Exit.then]
 refine bodyPost_ret (by simp [results,Tryz.results167,go_sem];try rfl) rfl ?_
 exact ⟨rfl,b0.alloc (Nat.le_refl _) _⟩
theorem plain_un (v:Int) (tx:TypeId) (x:Value) (w:World):Calls Tryz.prog 167 #[.iface 249 (.agg #[.int .i64 v,.iface tx x])] w fun e w'=>e = .returned (encA ⟨6,v,⟨#[]⟩⟩)/\Below w.heap.size w w':=by
 have n1:=fun W v=>as_num_no W 249 v (by decide)
 have n2:=fun W v=>as_var_no W 249 v (by decide)
 have n3:=fun W v=>as_index_no W 249 v (by decide)
 have n4:=fun W v=>as_call_no W 249 v (by decide)
 have y:=as_un_yes
 have b0:Bl w w:=Below.refl _ _
 unfold encA
 go_enter Tryz.func167,Tryz.ntmps167
 go_wp2_with fail
 try simp only [Exit.inBlock,Exit.then]
 refine bodyPost_ret (by simp [results,Tryz.results167,go_sem];try rfl) rfl ?_
 exact ⟨rfl,(b0.alloc (Nat.le_refl _) _).alloc (by simp) _⟩
theorem plain_bin (v:Int) (tx:TypeId) (x:Value) (ty:TypeId) (y:Value) (w:World):Calls Tryz.prog 167 #[.iface 251 (.agg #[.int .i64 v,.iface tx x,.iface ty y])] w fun e w'=>e = .returned (encA ⟨7,v,⟨#[]⟩⟩)/\Below w.heap.size w w':=by
 have n1:=fun W v=>as_num_no W 251 v (by decide)
 have n2:=fun W v=>as_var_no W 251 v (by decide)
 have n3:=fun W v=>as_index_no W 251 v (by decide)
 have n4:=fun W v=>as_call_no W 251 v (by decide)
 have n5:=fun W v=>as_un_no W 251 v (by decide)
 have y:=as_bin_yes
 have b0:Bl w w:=Below.refl _ _
 unfold encA
 go_enter Tryz.func167,Tryz.ntmps167
 go_wp2_with fail
 try simp only [Exit.inBlock,Exit.then]
 refine bodyPost_ret (by simp [results,Tryz.results167,go_sem];try rfl) rfl ?_
 exact ⟨rfl,(b0.alloc (Nat.le_refl _) _).alloc (by simp) _⟩
theorem plain_and (tx:TypeId) (x:Value) (ty:TypeId) (y:Value) (w:World):Calls Tryz.prog 167 #[.iface 253 (.agg #[.iface tx x,.iface ty y])] w fun e w'=>e = .returned (encA ⟨8,0,⟨#[]⟩⟩)/\Below w.heap.size w w':=by
 have n1:=fun W v=>as_num_no W 253 v (by decide)
 have n2:=fun W v=>as_var_no W 253 v (by decide)
 have n3:=fun W v=>as_index_no W 253 v (by decide)
 have n4:=fun W v=>as_call_no W 253 v (by decide)
 have n5:=fun W v=>as_un_no W 253 v (by decide)
 have n6:=fun W v=>as_bin_no W 253 v (by decide)
 have y:=as_and_yes
 have b0:Bl w w:=Below.refl _ _
 unfold encA
 go_enter Tryz.func167,Tryz.ntmps167
 go_wp2_with fail
 try simp only [Exit.inBlock,Exit.then]
 refine bodyPost_ret (by simp [results,Tryz.results167,go_sem];try rfl) rfl ?_
 exact ⟨rfl,(b0.alloc (Nat.le_refl _) _).alloc (by simp) _⟩
theorem plain_or (tx:TypeId) (x:Value) (ty:TypeId) (y:Value) (w:World):Calls Tryz.prog 167 #[.iface 254 (.agg #[.iface tx x,.iface ty y])] w fun e w'=>e = .returned (encA ⟨9,0,⟨#[]⟩⟩)/\Below w.heap.size w w':=by
 have n1:=fun W v=>as_num_no W 254 v (by decide)
 have n2:=fun W v=>as_var_no W 254 v (by decide)
 have n3:=fun W v=>as_index_no W 254 v (by decide)
 have n4:=fun W v=>as_call_no W 254 v (by decide)
 have n5:=fun W v=>as_un_no W 254 v (by decide)
 have n6:=fun W v=>as_bin_no W 254 v (by decide)
 have n7:=fun W v=>as_and_no W 254 v (by decide)
 have y:=as_or_yes
 have b0:Bl w w:=Below.refl _ _
 unfold encA
 go_enter Tryz.func167,Tryz.ntmps167
 go_wp2_with fail
 try simp only [Exit.inBlock,Exit.then]
 refine bodyPost_ret (by simp [results,Tryz.results167,go_sem];try rfl) rfl ?_
 exact ⟨rfl,(b0.alloc (Nat.le_refl _) _).alloc (by simp) _⟩
theorem Src.nil (w:World):Src w (.slice none 0 0) []:=⟨_,_,rfl,fun _=>rfl,fun ad had=>by cases had⟩
theorem Src.lit2 (w:World) (x y:Value) (t:TypeId):Src (w.alloc (.cells #[x,y] t)) (.slice (some ⟨w.heap.size,0,none⟩) 2 2) [x,y]:=by
 refine ⟨_,_,rfl,fun h=>(by cases h),fun ad had j z hz => ?_⟩
 simp only [Option.some.injEq] at had
 subst had
 cases j with
 | zero=>simp at hz;subst hz;simp [Addr.add]
 | succ j=>cases j with
  | zero=>simp at hz;subst hz;simp [Addr.add]
  | succ j=>simp at hz
theorem ops_num (v:Int) (w:World):Calls Tryz.prog 249 #[.agg #[.int .i64 v]] w fun e w'=>∃sl,e = .returned sl/\Src w' sl []/\Below w.heap.size w w':=by
 go_enter Tryz.func249,Tryz.ntmps249
 go_wp2_with fail
 go_ret
 exact ⟨_,rfl,Src.nil _,(Below.refl _ _).alloc (Nat.le_refl _) _⟩
theorem ops_var (s:ByteArray) (w:World):Calls Tryz.prog 250 #[.agg #[.string s]] w fun e w'=>∃sl,e = .returned sl/\Src w' sl []/\Below w.heap.size w w':=by
 go_enter Tryz.func250,Tryz.ntmps250
 go_wp2_with fail
 go_ret
 exact ⟨_,rfl,Src.nil _,(Below.refl _ _).alloc (Nat.le_refl _) _⟩
theorem ops_index (s:ByteArray) (tx:TypeId) (x:Value) (w:World):Calls Tryz.prog 251 #[.agg #[.string s,.iface tx x]] w fun e w'=>∃sl,e = .returned sl/\Src w' sl [.iface tx x]/\Below w.heap.size w w':=by
 go_enter Tryz.func251,Tryz.ntmps251
 go_wp2_with fail
 go_ret
 have HS:=Src.lit (w.alloc (.cells #[.string s,.iface tx x] 245)) (.iface tx x) 170
 simp only [World.size_alloc] at HS
 exact ⟨_,rfl,HS,(bel_a _ _).alloc (by simp) _⟩
theorem ops_inn  (w:World):Calls Tryz.prog 257 #[.agg #[]] w fun e w'=>∃sl,e = .returned sl/\Src w' sl []/\Below w.heap.size w w':=by
 go_enter Tryz.func257,Tryz.ntmps257
 go_wp2_with fail
 go_ret
 exact ⟨_,rfl,Src.nil _,(Below.refl _ _).alloc (Nat.le_refl _) _⟩
theorem ops_un (v:Int) (tx:TypeId) (x:Value) (w:World):Calls Tryz.prog 253 #[.agg #[.int .i64 v,.iface tx x]] w fun e w'=>∃sl,e = .returned sl/\Src w' sl [.iface tx x]/\Below w.heap.size w w':=by
 go_enter Tryz.func253,Tryz.ntmps253
 go_wp2_with fail
 go_ret
 have HS:=Src.lit (w.alloc (.cells #[.int .i64 v,.iface tx x] 249)) (.iface tx x) 170
 simp only [World.size_alloc] at HS
 exact ⟨_,rfl,HS,(bel_a _ _).alloc (by simp) _⟩
theorem ops_bin (v:Int) (tx:TypeId) (x:Value) (ty:TypeId) (y:Value) (w:World):Calls Tryz.prog 254 #[.agg #[.int .i64 v,.iface tx x,.iface ty y]] w fun e w'=>∃sl,e = .returned sl/\Src w' sl [.iface tx x,.iface ty y]/\Below w.heap.size w w':=by
 go_enter Tryz.func254,Tryz.ntmps254
 go_wp2_with fail
 go_ret
 have HS:=Src.lit2 (w.alloc (.cells #[.int .i64 v,.iface tx x,.iface ty y] 251)) (.iface tx x) (.iface ty y) 170
 simp only [World.size_alloc] at HS
 exact ⟨_,rfl,HS,(bel_a _ _).alloc (by simp) _⟩
theorem ops_and (tx:TypeId) (x:Value) (ty:TypeId) (y:Value) (w:World):Calls Tryz.prog 255 #[.agg #[.iface tx x,.iface ty y]] w fun e w'=>∃sl,e = .returned sl/\Src w' sl [.iface tx x,.iface ty y]/\Below w.heap.size w w':=by
 go_enter Tryz.func255,Tryz.ntmps255
 go_wp2_with fail
 go_ret
 have HS:=Src.lit2 (w.alloc (.cells #[.iface tx x,.iface ty y] 253)) (.iface tx x) (.iface ty y) 170
 simp only [World.size_alloc] at HS
 exact ⟨_,rfl,HS,(bel_a _ _).alloc (by simp) _⟩
theorem ops_or (tx:TypeId) (x:Value) (ty:TypeId) (y:Value) (w:World):Calls Tryz.prog 256 #[.agg #[.iface tx x,.iface ty y]] w fun e w'=>∃sl,e = .returned sl/\Src w' sl [.iface tx x,.iface ty y]/\Below w.heap.size w w':=by
 go_enter Tryz.func256,Tryz.ntmps256
 go_wp2_with fail
 go_ret
 have HS:=Src.lit2 (w.alloc (.cells #[.iface tx x,.iface ty y] 254)) (.iface tx x) (.iface ty y) 170
 simp only [World.size_alloc] at HS
 exact ⟨_,rfl,HS,(bel_a _ _).alloc (by simp) _⟩
theorem ops_call (s:ByteArray) (a:Option Addr) (A cp:Nat) (w:World):Calls Tryz.prog 252 #[.agg #[.string s,.slice a A cp]] w fun e w'=>e = .returned (.slice a A cp)/\Below w.heap.size w w':=by
 go_enter Tryz.func252,Tryz.ntmps252
 go_wp2_with fail
 go_ret
 exact ⟨rfl,(Below.refl _ _).alloc (Nat.le_refl _) _⟩
def LowIs (w:World) (S:Nat->Prop) (v:Value) (l:List Nd):Prop:=∃(t:TypeId) (x:Value) (f:Nat) (n:Nd) (Ls:List (Value × List Nd)),
 v = .iface t x/\l=(Ls.map (·.2)).flatten++[n]/\(∀q∈Ls,Tv w S q.1 q.2) /\
 (∀W:World,(method 437 t x "loop.example/s01725/impl.operands").run Tryz.prog W = .ok (f,x) W) /\
 (∀(y:Value) (W:World),(callFunc f #[y]).run Tryz.prog W = .ok (.enter f #[y]) W) /\
 (∀W:World,Below w.heap.size w W->Calls Tryz.prog f #[x] W fun e w'=>∃sl,e = .returned sl/\Src w' sl (Ls.map (·.1))/\Below W.heap.size W w') /\
 (∀W:World,Calls Tryz.prog 167 #[v] W fun e w'=>e = .returned (encA n)/\Below W.heap.size W w')
theorem join_range (F:Nat->List Nd) (vs:Nat->Value) (A:Nat):joinF F A=(((List.range A).map (fun i=>(vs i,F i))).map (·.2)).flatten:=by
 induction A with
 | zero=>rfl
 | succ A ih=>rw [List.range_succ];simp only [joinF,List.map_append,List.flatten_append,List.map_cons,List.map_nil,List.flatten_cons,List.flatten_nil,List.append_nil];rw [ih]
theorem args_src {w:World} {S:Nat->Prop} {ar:Value} {A:Nat} {vs:Nat->Value} (F:Nat->List Nd) (h:Args w S ar A vs) : ∃a cap,ar = .slice a A cap/\Src w ar (((List.range A).map (fun i=>(vs i,F i))).map (·.1)):=by
 obtain ⟨a,cap,rfl,_,_,h⟩:=h
 refine ⟨a,cap,rfl,a,cap,by simp,fun ha => ?_,fun ad had j u hj => ?_⟩
 ·rcases Nat.eq_zero_or_pos A with h0 | h0
  ·subst h0;rfl
  ·obtain ⟨B,hB,_⟩:=h h0
   rw [ha] at hB;cases hB
 ·have hjA:j<A:=by
   have:=(List.getElem?_eq_some_iff.mp hj).1
   simpa using this
  obtain ⟨B,hB,_,hc⟩:=h (by omega)
  rw [had] at hB
  simp only [Option.some.injEq] at hB
  subst hB
  rw [addrO]
  have:=hc j hjA
  simp only [List.map_map,List.getElem?_map,List.getElem?_range hjA,Option.map_some,Option.some.injEq,Function.comp] at hj
  rw [<-hj]
  simpa using this
theorem Tv.low {w:World} {S:Nat->Prop} {v:Value} {l:List Nd} (h:Tv w S v l):LowIs w S v l:=by
 cases h using Tv_i with
 | num v=>exact ⟨_,_,249,_,[],rfl,rfl,by simp,fun W=>by kernel_rfl,fun y W=>by kernel_rfl,fun W _=>ops_num v W,fun W=>plain_num v W⟩
 | var s=>exact ⟨_,_,250,_,[],rfl,rfl,by simp,fun W=>by kernel_rfl,fun y W=>by kernel_rfl,fun W _=>ops_var s W,fun W=>plain_var s W⟩
 | index s x r hx=>
  obtain ⟨tx,xx,rfl⟩:=hx.isI
  exact ⟨_,_,251,_,[(_,r)],rfl,by simp,by simpa using hx,fun W=>by kernel_rfl,fun y W=>by kernel_rfl,fun W _=>ops_index s tx xx W,fun W=>plain_index s tx xx W⟩
 | call s ar A vs F ha hv=>
  obtain ⟨a,cap,rfl,hs⟩:=args_src F ha
  refine ⟨_,_,252,_,(List.range A).map (fun i=>(vs i,F i)),rfl,by rw [<-join_range],fun q hq => ?_,fun W=>by kernel_rfl,fun y W=>by kernel_rfl,fun W hW => ?_,fun W=>plain_call s a A cap W⟩
  ·simp only [List.mem_map,List.mem_range] at hq
   obtain ⟨i,hi,rfl⟩:=hq
   exact hv i hi
  ·refine (ops_call s a A cap W).mono ?_
   rintro e w' ⟨rfl,hb⟩
   exact ⟨_,rfl,hs.below (hW.trans (hb.mono hW.size)),hb⟩
 | inn=>exact ⟨_,_,257,_,[],rfl,rfl,by simp,fun W=>by kernel_rfl,fun y W=>by kernel_rfl,fun W _=>ops_inn W,fun W=>plain_inn W⟩
 | un op x r hx=>
  obtain ⟨tx,xx,rfl⟩:=hx.isI
  exact ⟨_,_,253,_,[(_,r)],rfl,by simp,by simpa using hx,fun W=>by kernel_rfl,fun y W=>by kernel_rfl,fun W _=>ops_un op tx xx W,fun W=>plain_un op tx xx W⟩
 | bin op x y r t hx hy=>
  obtain ⟨tx,xx,rfl⟩:=hx.isI
  obtain ⟨ty,yy,rfl⟩:=hy.isI
  exact ⟨_,_,254,_,[(_,r),(_,t)],rfl,by simp,by simpa using ⟨hx,hy⟩,fun W=>by kernel_rfl,fun y W=>by kernel_rfl,fun W _=>ops_bin op tx xx ty yy W,fun W=>plain_bin op tx xx ty yy W⟩
 | and x y r t hx hy=>
  obtain ⟨tx,xx,rfl⟩:=hx.isI
  obtain ⟨ty,yy,rfl⟩:=hy.isI
  exact ⟨_,_,255,_,[(_,r),(_,t)],rfl,by simp,by simpa using ⟨hx,hy⟩,fun W=>by kernel_rfl,fun y W=>by kernel_rfl,fun W _=>ops_and tx xx ty yy W,fun W=>plain_and tx xx ty yy W⟩
 | or x y r t hx hy=>
  obtain ⟨tx,xx,rfl⟩:=hx.isI
  obtain ⟨ty,yy,rfl⟩:=hy.isI
  exact ⟨_,_,256,_,[(_,r),(_,t)],rfl,by simp,by simpa using ⟨hx,hy⟩,fun W=>by kernel_rfl,fun y W=>by kernel_rfl,fun W _=>ops_or tx xx ty yy W,fun W=>plain_or tx xx ty yy W⟩
theorem mapped_any (v:Value) (e r:List Nd) (w:World) (hTab:Tab w) (hN:Nodes w v e) (hone:oneB e=true) (hl:e.length<=2000) (hr:Fd apN e r) :
  Calls Tryz.prog 147 #[v,.func (Fn.func 148) #[] #[]] w fun x w'=>∃u S,x = .returned u/\Tv w' S u r/\(∀B,S B->w.heap.size<=B/\B<w'.heap.size)/\Below w.heap.size w w':=by
 have hb:=(Below.refl w.heap.size w).alloc (Nat.le_refl _) (.cells #[.func (Fn.func 148) #[] #[]] 263)
 have HR:Hid (Calls Tryz.prog 134 #[v,.func (Fn.func 169) #[] #[.pointer (some ⟨w.heap.size,0,none⟩)]] (w.alloc (.cells #[.func (Fn.func 148) #[] #[]] 263)) fun x w'=>∃u S,x = .returned u/\Tv w' S u r/\(∀B,S B->w.heap.size+1<=B/\B<w'.heap.size)/\Below (w.heap.size+1) (w.alloc (.cells #[.func (Fn.func 148) #[] #[]] 263)) w'):=by
  have:=raised_any v e r w.heap.size (w.alloc (.cells #[.func (Fn.func 148) #[] #[]] 263)) (hTab.below hTab.size hb) (hN.below hb) hone hl hr (by simp)
  simp only [World.size_alloc] at this
  exact this
 obtain ⟨a,cap,rfl,-⟩:=hN
 go_enter Tryz.func147,Tryz.ntmps147
 go_wp2_with fail
 refine HR.out.mono ?_
 rintro x w1 ⟨u,S,rfl,h1,h2,h3⟩
 obtain ⟨ta,tb,rfl⟩:=h1.isI
 have HT:=hide h1
 go_wp2_with fail
 go_ret
 exact ⟨_,S,rfl,HT.out,fun B hB=>⟨by have:=(h2 B hB).1;omega,(h2 B hB).2⟩,hb.trans (h3.mono (by omega))⟩
structure LI (w wr:World) (S:Nat->Prop) (r:List Nd) (left list:Value) (Ls:List (Value × List Nd)) (L:List Nd):Prop where
 sum:(Ls.map (·.2)).flatten++L.reverse=r
 each : ∀q∈Ls,Tv w S q.1 q.2
 row:VRow w.heap.size wr left (Ls.map (·.1))
 out:NRow w.heap.size wr list L
 ne : ∀g,left.ownBlock=some g->list.ownBlock≠some g
 bel:Below w.heap.size w wr
theorem LI.len {w wr:World} {S:Nat->Prop} {r:List Nd} {left list:Value} {Ls:List (Value × List Nd)} {L:List Nd} (h:LI w wr S r left list Ls L):Ls.length+L.length<=r.length:=by
 have h1:Ls.length<=(Ls.map (·.2)).flatten.length:=by
  have h2:=h.each
  clear h
  induction Ls with
  | nil=>simp
  | cons q Ls ih=>
   have h3:=(h2 q (by simp)).pos
   have h4:=ih (fun q hq=>h2 q (by simp [hq]))
   simp only [List.map_cons,List.flatten_cons,l_a,l_c]
   omega
 have h3:=congrArg List.length h.sum
 simp only [l_a,List.length_reverse] at h3
 omega
theorem LI.mid {w wr w1 w2:World} {S:Nat->Prop} {r:List Nd} {left list:Value} {Ls:List (Value × List Nd)} {L:List Nd} (h:LI w wr S r left list Ls L) (hb1:Below wr.heap.size wr w1) (hg2:w1.grownBy w2 left.ownBlock):NRow w.heap.size w2 list L/\w.heap.size<=w2.heap.size:=by
 refine ⟨ownG (ownB h.out hb1) hg2 (fun g hg h'=>h.ne g h' hg),?_⟩
 have:=h.bel.size
 have:=hb1.size
 have:=hg2.size
 omega
theorem LI.step {w wr w1 w2 w4 w5:World} {S:Nat->Prop} {r l:List Nd} {v left list left' list':Value} {Ls0 Ns:List (Value × List Nd)} {L:List Nd} {n:Nd} (h:LI w wr S r left list (Ls0++[(v,l)]) L) (hl:l=(Ns.map (·.2)).flatten++[n]) (hN : ∀q∈Ns,Tv w S q.1 q.2)
  (hb1:Below wr.heap.size wr w1) (hr2:VRow w.heap.size w2 left' (Ls0.map (·.1)++Ns.map (·.1))) (hg2:w1.grownBy w2 left.ownBlock) (hf2 : ∀k,left'.ownBlock=some k->left.ownBlock=some k∨w1.heap.size<=k)
  (hb3:Below w2.heap.size w2 w4) (ho:NRow w.heap.size w5 list' (L++[n])) (hg5:w4.grownBy w5 list.ownBlock) (hf5 : ∀k,list'.ownBlock=some k->list.ownBlock=some k∨w4.heap.size<=k) :
  LI w w5 S r left' list' (Ls0++Ns) (L++[n]):=by
 have hol : ∀g,list.ownBlock=some g->w.heap.size<=g/\g<wr.heap.size:=fun g hg=>World.ownsRow.lt h.out g hg
 have hll : ∀g,left.ownBlock=some g->w.heap.size<=g/\g<wr.heap.size:=fun g hg=>World.ownsRow.lt h.row g hg
 have hl2 : ∀g,left'.ownBlock=some g->g<w2.heap.size:=fun g hg=>(World.ownsRow.lt hr2 g hg).2
 have s1:=hb1.size
 have s3:=hb3.size
 have hx : ∀g,left'.ownBlock=some g->list.ownBlock≠some g:=by
  intro g hg h'
  rcases hf2 g hg with h2 | h2
  ·exact h.ne g h2 h'
  ·have:=(hol g h').2;omega
 have e1:(Ls0++Ns).map (·.1)=Ls0.map (·.1)++Ns.map (·.1):=by simp
 have hb2:Bl w w2:=(h.bel.trans (hb1.mono h.bel.size)).grown hg2 (Nat.le_trans h.bel.size s1) (fun g hg=>(hll g hg).1)
 have hb4:Bl w w4:=hb2.trans (hb3.mono hb2.size)
 refine ⟨?_,fun q hq => ?_,?_,ho,fun g hg h' => ?_,hb4.grown hg5 hb4.size (fun g hg=>(hol g hg).1)⟩
 ·have:=h.sum
  rw [<-this,hl]
  simp
 ·rcases List.mem_append.1 hq with hq | hq
  ·exact h.each q (by simp [hq])
  ·exact hN q hq
 ·rw [e1]
  exact ownG (ownB hr2 hb3) hg5 (fun g hg=>hx g hg)
 ·rcases hf5 g h' with h2 | h2
  ·exact hx g hg h2
  ·have:=hl2 g hg;omega
def lenVF:Value->Nat
 | .slice _ n _=>n
 | _=>0
theorem NRow.free {B:Nat} {w:World} {v:Value} {ns:List Nd} (h:NRow B w v ns) (hp:0<ns.length):NFree B w v ns:=by
 have hn:=h.nodes
 have h0:=h
 rcases h.2 with ⟨rfl,hz⟩ | ⟨g,cap,cur,rfl,hbg,hg,hnc,hcm,hcs,htake⟩
 ·omega
 ·obtain ⟨a,cap',he,h1,h2,h3⟩:=hn
  simp only [Value.slice.injEq,true_and] at he
  obtain ⟨rfl,rfl⟩:=he
  obtain ⟨b,off,he,hC⟩:=h3 hp
  simp only [Option.some.injEq,Addr.mk.injEq,and_true] at he
  obtain ⟨rfl,rfl⟩:=he
  exact ⟨g,cap,rfl,h1,h2,hbg,(World.ownsRow.lt h0 g rfl).2,hC,fun j hj=>World.ownsRow.frozenAt h0 j⟩
theorem nodes_lit (w:World) (n:Nd) (t:TypeId):Nodes (w.alloc (.cells #[.int .i64 n.kind,.int .i64 n.val,.string n.name] t)) (.slice (some ⟨w.heap.size,0,none⟩) 1 1) [n]:=by
 refine ⟨_,_,rfl,by simp,by omega,fun _=>⟨_,_,rfl,fun j hj => ?_⟩⟩
 have:j=0:=by simp at hj;omega
 subst this
 refine ⟨by simp,by simp,by simp⟩
theorem lowered_any (u:Value) (r:List Nd) (S:Nat->Prop) (w:World) (hS : ∀B,S B->B<w.heap.size) (hT:Tv w S u r) (hl:r.length<=2000) :
    Calls Tryz.prog 146 #[u] w fun x w'=>∃v,x = .returned v/\NFree w.heap.size w' v r/\Below w.heap.size w w':=by
  obtain ⟨i0,hi0,hz0,hz1,hz2⟩:=info_parts info_nv
  have HT:Hid (Tv w S u r):=hT
  have HI0:Hid (LI w (w.alloc (.cells #[u] 170)) S r (.slice (some ⟨w.heap.size,0,none⟩) 1 1) (.slice none 0 0) [(u,r)] []):=by
    refine ⟨by simp,by simpa using hT,?_,World.ownsRow_nil _ _ _ _,fun g _ h=>(by simp [Value.ownBlock] at h),(Below.refl _ _).alloc (Nat.le_refl _) _⟩
    exact World.ownsRow_lit w #[u] 1 (Nat.le_refl _) (by decide) rfl
  obtain ⟨ta,tb,rfl⟩:=hT.isI
  clear hT
  go_enter Tryz.func146,Tryz.ntmps146
  go_wp2_with fail
  go_loopw [3,4] (fun list left wr=>∃Ls L,LI w wr S r left list Ls L) (fun list _ _=>r.length-lenVF list)
  case atStart=>exact ⟨_,_,HI0.out⟩
  case round=>
    obtain ⟨Ls,L,hI⟩:=hrel
    obtain ⟨pa,pc,rfl,hp1,hp2,hp3,hp4⟩:=hI.row.form
    obtain ⟨qa,qc,rfl,hq1,hq2,-⟩:=hI.out.nodes
    have hlen:=hI.len
    rcases List.eq_nil_or_concat Ls with rfl | ⟨Ls0,q,rfl⟩
    · have hL:L.reverse=r:=by simpa using hI.sum
      have HL:Hid (L.reverse=r):=hL
      have HO:Hid (NRow w.heap.size wr (.slice qa L.length qc) L):=hI.out
      have HB:Hid (Bl w wr):=hI.bel
      have hpos:0<L.length:=by have:=HT.out.pos;rw [<-hL,List.length_reverse] at this;exact this
      have HR:Hid (Calls Tryz.prog 168 #[.slice qa L.length qc] wr fun e w'=>e = .returned (.tuple #[])/\NFree w.heap.size w' (.slice qa L.length qc) r/\Bl w w'):=by
        refine (rev_any w.heap.size _ L wr (by omega) (HO.out.free hpos)).mono ?_
        rintro e w' ⟨rfl,h1,h2⟩
        exact ⟨rfl,by rw [<-HL.out];exact h1,h2 w _ (Nat.le_refl _) HB.out⟩
      clear hI hp3 hp4 hL
      simp only [List.map_nil,l_n] at hp1 ⊢
      go_wp2_with fail
      refine HR.out.mono ?_
      rintro x w1 ⟨rfl,h1,h2⟩
      have HF:Hid (NFree w.heap.size w1 (.slice qa L.length qc) r):=h1
      clear h1
      go_wp2_with fail
      go_ret
      exact ⟨_,rfl,HF.out,h2⟩
    · obtain ⟨v,l⟩:=q
      simp only [List.concat_eq_append] at hp1 hp3 hp4 hI hlen ⊢
      have e0:((Ls0++[(v,l)]).map (·.1)).length=Ls0.length+1:=by simp
      rw [e0] at hp1 hI ⊢
      have e1:(Ls0++[(v,l)]).length=Ls0.length+1:=by simp
      rw [e1] at hlen
      cases pa with
      | none=>have:=hp3 rfl;simp at this
      | some ad=>
      obtain ⟨g,rfl,hg1,hg2,hgc⟩:=hp4 ad rfl
      have hcell:=hgc Ls0.length v (by simp)
      obtain ⟨t,x,f,n,Ns,rfl,hl',hNs,hm,hcf,hops,hpl⟩:=(hI.each (v,l) (by simp)).low
      have HI:Hid (LI w wr S r (.slice (some ⟨g,0,none⟩) (Ls0.length+1) pc) (.slice qa L.length qc) (Ls0++[(.iface t x,l)]) L):=hI
      have HOp:Hid (Calls Tryz.prog f #[x] wr.drew fun e w'=>∃sl,e = .returned sl/\(Src w' sl (Ns.map (·.1))/\Bl wr w')):=by
        refine (hops wr.drew hI.bel.drew).mono ?_
        rintro e w' ⟨sl,rfl,h1,h2⟩
        exact ⟨sl,rfl,h1,(Below.refl _ _).drew.trans h2⟩
      have HPl:Hid (∀W:World,Calls Tryz.prog 167 #[.iface t x] W fun e w'=>e = .returned (.agg #[.int .i64 n.kind,.int .i64 n.val,.string n.name])/\Bl W w'):=hpl
      have HLl:Hid (l=(Ns.map (·.2)).flatten++[n]):=hl'
      have HNs:Hid (∀q∈Ns,Tv w S q.1 q.2):=hNs
      have HO1:Hid (∀y∈Ns.map (·.1),y.oneCell'=true):=fun y hy=>by
        simp only [List.mem_map] at hy
        obtain ⟨q,hq,rfl⟩:=hy
        obtain ⟨a,b,hab⟩:=(hNs q hq).isI
        rw [hab];rfl
      have hNl:Ls0.length+Ns.length<=2000:=by
        have h1:Ns.length<=(Ns.map (·.2)).flatten.length:=by
          have h2:=hNs
          clear HNs HO1 hNs HOp HLl hl' hops
          induction Ns with
          | nil=>simp
          | cons q Ls ih=>
            have h3:=(h2 q (by simp)).pos
            have h4:=ih (fun q hq=>h2 q (by simp [hq]))
            simp only [List.map_cons,List.flatten_cons,l_a,l_c]
            omega
        have h2:Ls0.length<=(Ls0.map (·.2)).flatten.length:=by
          have h2 : ∀q∈Ls0,Tv w S q.1 q.2:=fun q hq=>hI.each q (by simp [hq])
          clear HNs HO1 hNs HOp HLl hl' HI hI hlen hcell hgc e0 e1 hp1 hp3 hp4
          induction Ls0 with
          | nil=>simp
          | cons q Ls ih=>
            have h3:=(h2 q (by simp)).pos
            have h4:=ih (fun q hq=>h2 q (by simp [hq]))
            simp only [List.map_cons,List.flatten_cons,l_a,l_c]
            omega
        have h3:=congrArg List.length hI.sum
        rw [HLl.out] at h3
        simp only [List.map_append,List.map_cons,List.map_nil,List.flatten_append,List.flatten_cons,List.flatten_nil,l_a,l_n,l_c] at h3
        omega
      have HRw:Hid (∀w1 sl,(Src w1 sl (Ns.map (·.1))/\Bl wr w1)->w1.ownsRow w.heap.size 170 1 (.slice (some ⟨g,0,none⟩) Ls0.length pc) (Ls0.map (·.1)).length (Ls0.map (·.1))/\w.heap.size<=w1.heap.size):=by
        intro w1 sl ⟨_,hb⟩
        have h2:VRow w.heap.size w1 (.slice (some ⟨g,0,none⟩) (Ls0.length+1) pc) ((Ls0++[(Value.iface t x,l)]).map (·.1)):=ownB hI.row hb
        have h3:=h2.head Ls0.length (by simp)
        have e2:((Ls0++[(Value.iface t x,l)]).map (·.1)).take Ls0.length=Ls0.map (·.1):=by simp
        rw [e2] at h3
        exact ⟨h3,Nat.le_trans hI.bel.size hb.size⟩
      have hsh : ∀W:World,(Instr.slice 211 (.slice (some ⟨g,0,none⟩) (Ls0.length+1) pc) none (some (.int .i64 (Ls0.length:Int))) none).run Tryz.prog W = .ok (.slice (some ⟨g,0,none⟩) Ls0.length pc) W:=vcut_h _ _ _ _ (by omega) hp1
      have hw1:IntKind.i64.wrap (((Ls0.length+1:Nat):Int)-1)=(Ls0.length:Int):=by rw [wrapI64];omega
      have hw2:((Ls0.length+1:Nat):Int)-1=(Ls0.length:Int):=by omega
      have hw3:(Ls0.length:Int)+1-1=(Ls0.length:Int):=by omega
      have hw4:IntKind.i64.wrap ((Ls0.length:Int)+1-1)=(Ls0.length:Int):=by rw [wrapI64];omega
      have hw5:((Ls0.length+1:Nat):Int)=(Ls0.length:Int)+1:=by omega
      have hw6:(0:Int)<(Ls0.length:Int)+1:=by omega
      have hw7:(Ls0.length:Int)<(Ls0.length:Int)+1:=by omega
      have hw8:(0:Int)<=(Ls0.length:Int):=by omega
      clear hI hp3 hp4 hgc hops hpl hl' hNs
      go_wp2_with fail
      go_region_held_law (fun _=>True) (exact trivial)
        (first
        | ((with_reducible refine Calls.mono HOp.out ?_);intro e w1 hx;obtain ⟨sl,hx1,hx2⟩:=hx;subst hx1)
        | (refine step_appV (by rfl) _ _ 211 (by rfl) w.heap.size 170 i0 .nilIface Tryz.underlying211 hi0 hz0 hz1 hz2 (by rfl) (.slice (some ⟨g,0,none⟩) Ls0.length pc) (Ls0.map (·.1)) (by rfl) (HRw.out _ _ hx2).1 sl (Ns.map (·.1)) (by rfl) hx2.1 HO1.out (by simp;omega) (HRw.out _ _ hx2).2 ?_;intro v' w2 hown2 hgrow2 hfr2))
      have HS2:Hid (Src w1 sl (Ns.map (·.1))/\Bl wr w1):=hx2
      have HR2:Hid (VRow w.heap.size w2 v' (Ls0.map (·.1)++Ns.map (·.1))):=hown2
      have HG2:Hid (w1.grownBy w2 (Value.slice (some ⟨g,0,none⟩) Ls0.length pc).ownBlock):=hgrow2
      have HF2:Hid (∀k,v'.ownBlock=some k->(Value.slice (some ⟨g,0,none⟩) Ls0.length pc).ownBlock=some k∨w1.heap.size<=k):=hfr2
      obtain ⟨va,vn,vc,rfl⟩ : ∃va vn vc,v' = .slice va vn vc:=by
        obtain ⟨va,vc,h,_⟩:=VRow.form hown2
        exact ⟨_,_,_,h⟩
      clear hx2 hown2 hgrow2 hfr2 HRw HOp
      go_wp2_with fail
      refine (HPl.out _).mono ?_
      rintro e w3 ⟨rfl,hb3⟩
      obtain ⟨hNm,hsm⟩:=HI.out.mid HS2.out.2 HG2.out
      have HNm:Hid (NRow w.heap.size (w3.alloc (.cells #[.int .i64 n.kind,.int .i64 n.val,.string n.name] 161)) (.slice qa L.length qc) L):=(hNm.below hb3).below (bel_a _ _)
      have hsz:w.heap.size<=(w3.alloc (.cells #[.int .i64 n.kind,.int .i64 n.val,.string n.name] 161)).heap.size:=by have:=hb3.size;simp;omega
      have HLit:Hid (Nodes (w3.alloc (.cells #[.int .i64 n.kind,.int .i64 n.val,.string n.name] 161)) (.slice (some ⟨w3.heap.size,0,none⟩) 1 1) [n]):=nodes_lit w3 n _
      have HB3:Hid (Bl w2 w3):=hb3
      clear hNm hsm hb3
      go_wp2_with (at_builtin;refine wpList_appN rfl _ _ rfl w.heap.size _ L rfl HNm.out _ [n] rfl HLit.out (by simp) (by simp;omega) hsz ?_)
      intro lv' w5 ho5 hg5 hf5
      have HI5:Hid (LI w w5 S r (.slice va vn vc) lv' (Ls0++Ns) (L++[n])):=HI.out.step HLl.out HNs.out HS2.out.2 HR2.out HG2.out HF2.out (HB3.out.alloc HB3.out.size _) ho5 hg5 (by simpa only [World.size_alloc] using hf5)
      obtain ⟨la,lc,rfl,-⟩:=ho5.nodes
      clear ho5 hg5 hf5
      go_wp2_with fail
      go_roundw
      case rel=>exact ⟨_,_,HI5.out⟩
      case measure=>simp [lenVF];omega
end Go.Proofs.YtmddmgpijpjpbaaGreatDoor
