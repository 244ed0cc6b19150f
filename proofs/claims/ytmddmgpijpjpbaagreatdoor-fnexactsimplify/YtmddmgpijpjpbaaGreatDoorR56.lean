import Derived.Test.YtmddmgpijpjpbaaGreatDoorR55
import Derived.Deep.Slices
import Derived.Deep.Fields
import Derived.Lib.SmallJoins
import Derived.Test.YtmddmgpijpjpbaaGreatDoorTie
import Derived.Test.YtmddmgpijpjpbaaGreatDoorCards
import Derived.ProofKit
import Derived.LaidMore
import Derived.OpenShut
import Derived.Carry
import Derived.ChangeOld
import Derived.WalkSmall
import Derived.Stop.Joined
import Derived.SevenTiedAt
namespace Go.Proofs.YtmddmgpijpjpbaaGreatDoor
open Go.RowKit Go.Deep Go.ChangeShapes Go.WideShapes
open Go.ChangeShapes Go.WideShapes Go.ChangeAt Go.WideMaps Go.WideElems Go.RowKit Go.Joins Go.Deep
set_option linter.unusedVariables false
set_option linter.unusedSimpArgs false
set_option maxRecDepth 100000
set_option maxHeartbeats 16000000
section
variable {H:Type} {enc:TypeId × Value->H} {W:World} {base:Nat} {spare:Nat->Bool} {held:Bool}
theorem fields1 {t:TypeId} {fs:Array Field} {fuel:Nat} {cs:List Value} {x:DataW H × List MemPlace} (ht:Tryz.prog.underlying t=some (.struct fs)) (hone:oneCellFields Tryz.prog fs=true) (hC:Tryz.prog.cellsOf t=fs.size) (h:DataW.trod enc Tryz.prog W base spare held fuel t cs=some x) :
  ∃n,cs.length=fs.size/\∀i f,fs[i]? = some f->∃y,DataW.trod enc Tryz.prog W base spare held n f.type [cs.getD i .nilFunc]=some y:=by
 obtain ⟨xs,n,_,_,hl,hx,hf⟩:=DataW.trod_struct ht h
 refine ⟨n,hl.trans hC,fun i f hi => ?_⟩
 have hlt:i<fs.size:=(Array.getElem?_eq_some_iff.1 hi).1
 obtain ⟨o,c⟩:=hone_of hone i f hi
 have:=hf i f hi
 rw [o,c,take1_drop cs i .nilFunc (by omega)] at this
 rw [this]
 exact ⟨xs[i]'(by omega),by simp⟩
theorem elem_cells {b off m i k:Nat} {cs:List Value} (h:W.cells? base ((⟨b,off,none⟩:Addr).add (i*m)) m=some cs) (hk:k<m):W.cell? ⟨b,off+i*m+k,none⟩=cs[k]? := by
 obtain ⟨_,_,hc⟩:=World.cells?_some h
 have:=hc k hk
 rw [add_add] at this
 rw [<-this]
 congr 1
 simp only [Addr.add]
 split
 ·simp only [Addr.mk.injEq,and_true,true_and];omega
 ·simp only [Addr.mk.injEq,and_true,true_and];omega
theorem spot_none {a:Addr} {m:Nat} {cs:List Value} (h:W.cells? base (a.add (0*m)) m=some cs) (hm:0<m) : ∃b off,a=⟨b,off,none⟩:=by
 obtain ⟨b,off,spot⟩:=a
 obtain ⟨_,hl,hc⟩:=World.cells?_some h
 have h0:=hc 0 hm
 rw [List.getElem?_eq_getElem (by omega)] at h0
 have hs:spot=none:=by simpa [Addr.add] using World.cell?_spot h0
 exact ⟨b,off,by rw [hs]⟩
theorem slice_list {α : Type} (i0 : α) {t e:TypeId} {m fuel:Nat} {v:Value} {x:DataW H × List MemPlace} (ht:Tryz.prog.underlying t=some (.slice e)) (hm:Tryz.prog.cellsOf e=m) (hpos:0<m) (P:α->List Value->Prop)
  (hel : ∀n cs y,DataW.trod enc Tryz.prog W base spare held n e cs=some y->∃z,P z cs) (h:DataW.trod enc Tryz.prog W base spare held fuel t [v]=some x) :
  ∃(a:Option Addr) (ns:List α) (cap:Nat),v = .slice a ns.length cap/\ns.length<=cap/\cap<=9223372036854775807/\(∀z∈ns,∃cs,P z cs) /\
   (0<ns.length->∃b off,a=some ⟨b,off,none⟩/\∀j (hj:j<ns.length),∃cs,P ns[j] cs/\∀k,k<m->W.cell? ⟨b,off+j*m+k,none⟩=cs[k]?):=by
 haveI : Inhabited α := ⟨i0⟩
 rcases open_slice ht h with ⟨hc,_⟩ | ⟨a,len,cap,mm,n,D,Pl,hcs,_,hl,hcap,hmm,_,hx⟩
 ·simp only [List.cons.injEq,and_true] at hc
  subst hc
  exact ⟨none,[],0,rfl,Nat.le_refl _,by omega,by simp,fun h=>absurd h (Nat.lt_irrefl _)⟩
 ·simp only [List.cons.injEq,and_true] at hcs
  subst hcs
  unfold maxLen at hcap
  rw [hm] at hx
  have hle:len<=mm:=by rw [hmm];split <;> omega
  obtain ⟨f,hf⟩:=choose_lt (α:=α) (n:=len) (p:=fun i z=>∃cs,P z cs/\W.cells? base (a.add (i*m)) m=some cs) (fun i hi=>by
   obtain ⟨cs,h1,h2⟩:=hx i (by omega)
   obtain ⟨z,hz⟩:=hel _ _ _ h2
   exact ⟨z,cs,hz,h1⟩)
  refine ⟨some a,(List.range len).map f,cap,by simp,by simpa using hl,by omega,fun z hz => ?_,fun h0 => ?_⟩
  ·obtain ⟨i,hi,rfl⟩:=List.mem_map.1 hz
   obtain ⟨cs,h1,_⟩:=hf i (List.mem_range.1 hi)
   exact ⟨cs,h1⟩
  ·simp only [List.length_map,List.length_range] at h0
   obtain ⟨cs0,_,hc0⟩:=hf 0 h0
   obtain ⟨b,off,rfl⟩:=spot_none hc0 hpos
   refine ⟨b,off,rfl,fun j hj => ?_⟩
   simp only [List.length_map,List.length_range] at hj
   obtain ⟨cs,h1,h2⟩:=hf j hj
   refine ⟨cs,by simpa using h1,fun k hk=>elem_cells h2 hk⟩
def rdcN (n:Nd) (cs:List Value):Prop:=cs = [.int .i64 n.kind,.int .i64 n.val,.string n.name]/\n.name.size<=9223372036854775807
theorem list3 {cs:List Value} (h:cs.length=3):cs = [cs.getD 0 .nilFunc,cs.getD 1 .nilFunc,cs.getD 2 .nilFunc]:=by
 match cs,h with
 | [a,b,c],_=>rfl
theorem list2 {cs:List Value} (h:cs.length=2):cs = [cs.getD 0 .nilFunc,cs.getD 1 .nilFunc]:=by
 match cs,h with
 | [a,b],_=>rfl
theorem list6 {cs:List Value} (h:cs.length=6):cs = [cs.getD 0 .nilFunc,cs.getD 1 .nilFunc,cs.getD 2 .nilFunc,cs.getD 3 .nilFunc,cs.getD 4 .nilFunc,cs.getD 5 .nilFunc]:=by
 match cs,h with
 | [a,b,c,d,e,f],_=>rfl
theorem rd_int {fuel:Nat} {c:Value} {y:DataW H × List MemPlace} (h:DataW.trod enc Tryz.prog W base spare held fuel 2 [c]=some y) : ∃z:Int,c = .int .i64 z:=by
 obtain ⟨z,hz,_,_⟩:=DataW.trod_int Tryz.underlying2 h
 exact ⟨z,by simpa using hz⟩
theorem rd_str {fuel:Nat} {c:Value} {y:DataW H × List MemPlace} (h:DataW.trod enc Tryz.prog W base spare held fuel 9 [c]=some y) : ∃s:ByteArray,c = .string s/\s.size<=9223372036854775807:=by
 obtain ⟨s,hs,_,hm⟩:=DataW.trod_string Tryz.underlying9 h
 unfold maxLen at hm
 exact ⟨s,by simpa using hs,by omega⟩
theorem rd_node {fuel:Nat} {cs:List Value} {y:DataW H × List MemPlace} (h:DataW.trod enc Tryz.prog W base spare held fuel 271 cs=some y) : ∃n,rdcN n cs:=by
 obtain ⟨n,hl,hf⟩:=fields1 Tryz.underlying271 (by kernel_rfl) (by kernel_rfl) h
 obtain ⟨_,h0⟩:=hf 0 _ rfl
 obtain ⟨_,h1⟩:=hf 1 _ rfl
 obtain ⟨_,h2⟩:=hf 2 _ rfl
 obtain ⟨k,e0⟩:=rd_int h0
 obtain ⟨v,e1⟩:=rd_int h1
 obtain ⟨s,e2,hs⟩:=rd_str h2
 exact ⟨⟨k,v,s⟩,by rw [list3 hl,e0,e1,e2],hs⟩
theorem rd_nodes {fuel:Nat} {v:Value} {y:DataW H × List MemPlace} (h:DataW.trod enc Tryz.prog W base spare held fuel 177 [v]=some y) : ∃ns,Nodes W v ns/\wfNs ns:=by
 obtain ⟨a,ns,cap,rfl,hl,hc,hall,hx⟩:=slice_list (⟨0, 0, ⟨#[]⟩⟩ : Nd) (m:=3) Tryz.underlying177 (by kernel_rfl) (by omega) rdcN (fun n cs y h=>rd_node h) h
 refine ⟨ns,⟨a,cap,rfl,hl,hc,fun h0 => ?_⟩,by omega,fun n hn => ?_⟩
 ·obtain ⟨b,off,rfl,hj⟩:=hx h0
  refine ⟨b,off,rfl,fun j hlt => ?_⟩
  obtain ⟨cs,⟨rfl,_⟩,hk⟩:=hj j hlt
  exact ⟨hk 0 (by omega),hk 1 (by omega),hk 2 (by omega)⟩
 ·obtain ⟨cs,_,hs⟩:=hall n hn
  exact hs
def rdcS (W:World) (s:St) (cs:List Value):Prop:=∃ve vf,cs = [.int .i64 s.kind,.string s.name,ve,vf,.int .i64 s.thn,.int .i64 s.els]/\Nodes W ve s.e/\Nodes W vf s.f/\wfSt s
theorem rd_stmt {fuel:Nat} {cs:List Value} {y:DataW H × List MemPlace} (h:DataW.trod enc Tryz.prog W base spare held fuel 179 cs=some y) : ∃s,rdcS W s cs:=by
 obtain ⟨n,hl,hf⟩:=fields1 Tryz.underlying179 (by kernel_rfl) (by kernel_rfl) h
 obtain ⟨_,h0⟩:=hf 0 _ rfl
 obtain ⟨_,h1⟩:=hf 1 _ rfl
 obtain ⟨_,h2⟩:=hf 2 _ rfl
 obtain ⟨_,h3⟩:=hf 3 _ rfl
 obtain ⟨_,h4⟩:=hf 4 _ rfl
 obtain ⟨_,h5⟩:=hf 5 _ rfl
 obtain ⟨k,e0⟩:=rd_int h0
 obtain ⟨s,e1,hs⟩:=rd_str h1
 obtain ⟨es,n2,w2⟩:=rd_nodes h2
 obtain ⟨fs,n3,w3⟩:=rd_nodes h3
 obtain ⟨t,e4⟩:=rd_int h4
 obtain ⟨l,e5⟩:=rd_int h5
 exact ⟨⟨k,s,es,fs,t,l⟩,_,_,by rw [list6 hl,e0,e1,e4,e5];rfl,n2,n3,hs,w2,w3⟩
theorem rd_stmts {fuel:Nat} {v:Value} {y:DataW H × List MemPlace} (h:DataW.trod enc Tryz.prog W base spare held fuel 95 [v]=some y) : ∃ns,Stmts W v ns/\wfSs ns:=by
 obtain ⟨a,ns,cap,rfl,hl,hc,hall,hx⟩:=slice_list (⟨0, ⟨#[]⟩, [], [], 0, 0⟩ : St) (m:=6) Tryz.underlying95 (by kernel_rfl) (by omega) (rdcS W) (fun n cs y h=>rd_stmt h) h
 refine ⟨ns,⟨a,cap,rfl,hl,hc,fun h0 => ?_⟩,by omega,fun n hn => ?_⟩
 ·obtain ⟨b,off,rfl,hj⟩:=hx h0
  refine ⟨b,off,rfl,fun j hlt => ?_⟩
  obtain ⟨cs,⟨ve,vf,rfl,he,hf,_⟩,hk⟩:=hj j hlt
  exact ⟨ve,vf,⟨hk 0 (by omega),hk 1 (by omega),hk 2 (by omega),hk 3 (by omega),hk 4 (by omega),hk 5 (by omega)⟩,he,hf⟩
 ·obtain ⟨cs,_,_,_,_,_,hs⟩:=hall n hn
  exact hs
def cellsP (s:ByteArray) (cs:List Value):Prop:=cs = [.string s]/\s.size<=9223372036854775807
theorem rd_strs {fuel:Nat} {v:Value} {y:DataW H × List MemPlace} (h:DataW.trod enc Tryz.prog W base spare held fuel 82 [v]=some y) : ∃ns,Strs W v ns/\wfPs ns:=by
 obtain ⟨a,ns,cap,rfl,hl,hc,hall,hx⟩:=slice_list (⟨#[]⟩ : ByteArray) (m:=1) Tryz.underlying82 (by kernel_rfl) (by omega) cellsP (fun n cs y h=>by
  obtain ⟨s,hs,_,hm⟩:=DataW.trod_string Tryz.underlying9 h
  unfold maxLen at hm
  exact ⟨s,hs,by omega⟩) h
 refine ⟨ns,⟨a,cap,rfl,hl,hc,fun h0 => ?_⟩,by omega,fun n hn => ?_⟩
 ·obtain ⟨b,off,rfl,hj⟩:=hx h0
  refine ⟨b,off,rfl,fun j hlt => ?_⟩
  obtain ⟨cs,⟨rfl,_⟩,hk⟩:=hj j hlt
  have:=hk 0 (by omega)
  rw [show off+j*1+0=off+j by omega] at this
  exact this
 ·obtain ⟨cs,_,hs⟩:=hall n hn
  exact hs
def rdcG (g:Gl) (cs:List Value):Prop:=cs = [.string g.name,.int .i64 g.size]/\g.name.size<=9223372036854775807
theorem rd_glob {fuel:Nat} {cs:List Value} {y:DataW H × List MemPlace} (h:DataW.trod enc Tryz.prog W base spare held fuel 93 cs=some y) : ∃n,rdcG n cs:=by
 obtain ⟨n,hl,hf⟩:=fields1 Tryz.underlying93 (by kernel_rfl) (by kernel_rfl) h
 obtain ⟨_,h0⟩:=hf 0 _ rfl
 obtain ⟨_,h1⟩:=hf 1 _ rfl
 obtain ⟨s,e0,hs⟩:=rd_str h0
 obtain ⟨k,e1⟩:=rd_int h1
 exact ⟨⟨s,k⟩,by rw [list2 hl,e0,e1],hs⟩
theorem rd_globs {fuel:Nat} {v:Value} {y:DataW H × List MemPlace} (h:DataW.trod enc Tryz.prog W base spare held fuel 22 [v]=some y) : ∃ns,Globs W v ns/\wfGs ns:=by
 obtain ⟨a,ns,cap,rfl,hl,hc,hall,hx⟩:=slice_list (⟨⟨#[]⟩, 0⟩ : Gl) (m:=2) Tryz.underlying22 (by kernel_rfl) (by omega) rdcG (fun n cs y h=>rd_glob h) h
 refine ⟨ns,⟨a,cap,rfl,hl,hc,fun h0 => ?_⟩,by omega,fun n hn => ?_⟩
 ·obtain ⟨b,off,rfl,hj⟩:=hx h0
  refine ⟨b,off,rfl,fun j hlt => ?_⟩
  obtain ⟨cs,⟨rfl,_⟩,hk⟩:=hj j hlt
  exact ⟨hk 0 (by omega),hk 1 (by omega)⟩
 ·obtain ⟨cs,_,hs⟩:=hall n hn
  exact hs
def rdcF (W:World) (s:Fu) (cs:List Value):Prop:=∃vp vb,cs = [.string s.name,vp,vb]/\Strs W vp s.params/\Stmts W vb s.body/\wfFu s
theorem rd_func {fuel:Nat} {cs:List Value} {y:DataW H × List MemPlace} (h:DataW.trod enc Tryz.prog W base spare held fuel 97 cs=some y) : ∃s,rdcF W s cs:=by
 obtain ⟨n,hl,hf⟩:=fields1 Tryz.underlying97 (by kernel_rfl) (by kernel_rfl) h
 obtain ⟨_,h0⟩:=hf 0 _ rfl
 obtain ⟨_,h1⟩:=hf 1 _ rfl
 obtain ⟨_,h2⟩:=hf 2 _ rfl
 obtain ⟨s,e0,hs⟩:=rd_str h0
 obtain ⟨ps,n1,w1⟩:=rd_strs h1
 obtain ⟨ss,n2,w2⟩:=rd_stmts h2
 exact ⟨⟨s,ps,ss⟩,_,_,by rw [list3 hl,e0];rfl,n1,n2,hs,w1,w2⟩
theorem rd_funcs {fuel:Nat} {v:Value} {y:DataW H × List MemPlace} (h:DataW.trod enc Tryz.prog W base spare held fuel 23 [v]=some y) : ∃ns,Funcs W v ns/\wfFs ns:=by
 obtain ⟨a,ns,cap,rfl,hl,hc,hall,hx⟩:=slice_list (⟨⟨#[]⟩, [], []⟩ : Fu) (m:=3) Tryz.underlying23 (by kernel_rfl) (by omega) (rdcF W) (fun n cs y h=>rd_func h) h
 refine ⟨ns,⟨a,cap,rfl,hl,hc,fun h0 => ?_⟩,by omega,fun n hn => ?_⟩
 ·obtain ⟨b,off,rfl,hj⟩:=hx h0
  refine ⟨b,off,rfl,fun j hlt => ?_⟩
  obtain ⟨cs,⟨vp,vb,rfl,he,hf,_⟩,hk⟩:=hj j hlt
  exact ⟨vp,vb,⟨hk 0 (by omega),hk 1 (by omega),hk 2 (by omega)⟩,he,hf⟩
 ·obtain ⟨cs,_,_,_,_,_,hs⟩:=hall n hn
  exact hs
end
theorem own:ownKnob Tryz.prog.godebug=none:=by kernel_rfl
theorem laidOut:laidOutB Tryz.prog=true:=by kernel_rfl
def litV {H:Type}:DataW H->Value
 | .lit (.int k n)=>.int k n
 | .lit (.bool b)=>.bool b
 | _=>.nilFunc
def partsD {H:Type}:DataW H->List (DataW H)
 | .agg ds=>ds
 | _=>[]
theorem tab_cells {H:Type} {enc:TypeId × Value->H} {W:World} {base:Nat} {spare:Nat->Bool} {held:Bool} {fuel n:Nat} {ta ts:TypeId} {fs:Array Field} {cs:List Value} {D:DataW H} {p:List MemPlace}
  (hta:Tryz.prog.underlying ta=some (.array n ts)) (hts:Tryz.prog.underlying ts=some (.struct fs)) (hone:oneCellFields Tryz.prog fs=true) (hC:Tryz.prog.cellsOf ts=fs.size)
  (hlit : ∀(i:Nat) (f:Field),fs[i]? = some f->Tryz.prog.underlying f.type=some (.int .i64)∨Tryz.prog.underlying f.type=some .bool) (h:DataW.trod enc Tryz.prog W base spare held fuel ta cs=some (D,p)) :
  ∀i,i<n->∀k,k<fs.size->cs[i*fs.size+k]? = some (litV ((partsD ((partsD D).getD i .nil)).getD k .nil)):=by
 intro i hi k hk
 obtain ⟨xs,m,_,hx,hl,hxl,hel⟩:=DataW.trod_array hta h
 have h1:=hel i hi
 rw [List.getElem?_eq_getElem (by omega),hC] at h1
 obtain ⟨ys,m',_,hy,hl',hyl,hf⟩:=DataW.trod_struct hts h1
 have hfk:fs[k]? = some fs[k]:=by simp [hk]
 have h2:=hf k _ hfk
 obtain ⟨o,c⟩:=hone_of hone k _ hfk
 rw [o,c,List.getElem?_eq_getElem (by omega),take1_drop _ k .nilFunc (by omega)] at h2
 have eD:(partsD D).getD i .nil=(xs[i]'(by omega)).1:=by
  have:D = .agg (xs.map (·.1)):=congrArg Prod.fst hx
  rw [this]
  simp only [partsD,List.getD,List.getElem?_map]
  rw [List.getElem?_eq_getElem (by omega)]
  rfl
 have eY:(partsD (xs[i]'(by omega)).1).getD k .nil=(ys[k]'(by omega)).1:=by
  rw [hy]
  simp only [partsD,List.getD,List.getElem?_map]
  rw [List.getElem?_eq_getElem (by omega)]
  rfl
 rw [eD,eY]
 have eC:cs[i*fs.size+k]? = some (((cs.drop (i*fs.size)).take fs.size).getD k .nilFunc):=by
  have hlt:k<((cs.drop (i*fs.size)).take fs.size).length:=by omega
  have e1:cs[i*fs.size+k]? = ((cs.drop (i*fs.size)).take fs.size)[k]? := by
   rw [List.getElem?_take,if_pos hk,List.getElem?_drop]
  rw [e1]
  simp only [List.getD]
  rw [List.getElem?_eq_getElem hlt]
  rfl
 rw [eC]
 rcases hlit k _ hfk with hu | hu
 ·obtain ⟨z,e,ez,_⟩:=DataW.trod_int hu h2
  rw [ez]
  simp only [List.cons.injEq,and_true] at e
  rw [e];rfl
 ·obtain ⟨z,e,ez⟩:=DataW.trod_bool hu h2
  rw [ez]
  simp only [List.cons.injEq,and_true] at e
  rw [e];rfl
theorem gStmt:Tryz.prog.globalNamed "loop.example/s01725/impl.stmtRules" = some 0:=by kernel_rfl
theorem gNode:Tryz.prog.globalNamed "loop.example/s01725/impl.nodeRules" = some 1:=by kernel_rfl
theorem tStmt:(Tryz.prog.globals[0]?).map (·.type)=some 276:=by kernel_rfl
theorem tNode:(Tryz.prog.globals[1]?).map (·.type)=some 281:=by kernel_rfl
theorem nodeTab_is:(List.range 40).map (fun j=>litV ((partsD ((partsD (Rows.laid_loop_example_s01725_impl_nodeRules (H:=Unit))).getD (j / 4) .nil)).getD (j % 4) .nil))=nodeTab:=by rfl
theorem stmtTab_is:(List.range 45).map (fun j=>litV ((partsD ((partsD (Rows.laid_loop_example_s01725_impl_stmtRules (H:=Unit))).getD (j / 5) .nil)).getD (j % 5) .nil))=stmtTab.map Value.bool:=by rfl
theorem tab_of_laid {W:World} (h:laidMetH Tryz.prog Rows.fnExactSimplifyRow.laid W):Tab W:=by
 rw [MakeChecks.laidMetH_plain _ _ _ (by kernel_rfl)] at h
 obtain ⟨ps,⟨g0,t0,cs0,f0,p0,q0,hg0,ht0,hv0,hd0,⟨g1,t1,cs1,f1,p1,q1,hg1,ht1,hv1,hd1,_,_⟩,_⟩,_,_⟩:=h
 obtain rfl:=Option.some.inj (gNode.symm.trans hg0)
 obtain rfl:=Option.some.inj (gStmt.symm.trans hg1)
 obtain rfl:=Option.some.inj (tNode.symm.trans ht0)
 obtain rfl:=Option.some.inj (tStmt.symm.trans ht1)
 have hn:=tab_cells Tryz.underlying281 Tryz.underlying280 (by kernel_rfl) (by kernel_rfl) (fun i f hi=>by
  match i with
  | 0=>exact .inr (by obtain rfl:=Option.some.inj hi;exact Tryz.underlying4)
  | 1=>exact .inl (by obtain rfl:=Option.some.inj hi;exact Tryz.underlying2)
  | 2=>exact .inl (by obtain rfl:=Option.some.inj hi;exact Tryz.underlying2)
  | 3=>exact .inl (by obtain rfl:=Option.some.inj hi;exact Tryz.underlying2)
  | (n+4)=>simp at hi) hd0
 have hs:=tab_cells Tryz.underlying276 Tryz.underlying275 (by kernel_rfl) (by kernel_rfl) (fun i f hi=>by
  match i with
  | 0=>exact .inr (by obtain rfl:=Option.some.inj hi;exact Tryz.underlying4)
  | 1=>exact .inr (by obtain rfl:=Option.some.inj hi;exact Tryz.underlying4)
  | 2=>exact .inr (by obtain rfl:=Option.some.inj hi;exact Tryz.underlying4)
  | 3=>exact .inr (by obtain rfl:=Option.some.inj hi;exact Tryz.underlying4)
  | 4=>exact .inr (by obtain rfl:=Option.some.inj hi;exact Tryz.underlying4)
  | (n+5)=>simp at hi) hd1
 have cN : ∀j,j<40->W.cell? ⟨1,j,none⟩=some (nodeTab.getD j .nilFunc):=fun j hj=>by
  rw [World.var?_cell hg0 hv0 j]
  have:=hn (j / 4) (by omega) (j % 4) (Nat.mod_lt _ (by decide))
  have e:j / 4*4+j % 4=j:=by omega
  have e':cs0.toList[j]? = some (litV ((partsD ((partsD (Rows.laid_loop_example_s01725_impl_nodeRules (H:=Unit))).getD (j / 4) .nil)).getD (j % 4) .nil)):=by
   rw [<-this];congr 1;exact e.symm
  rw [<-nodeTab_is]
  simp only [List.getD,List.getElem?_map,List.getElem?_range,hj]
  simpa using e'
 have cS : ∀j,j<45->W.cell? ⟨0,j,none⟩=some (.bool (stmtTab.getD j false)):=fun j hj=>by
  rw [World.var?_cell hg1 hv1 j]
  have:=hs (j / 5) (by omega) (j % 5) (Nat.mod_lt _ (by decide))
  have e:j / 5*5+j % 5=j:=by omega
  have e':cs1.toList[j]? = some (litV ((partsD ((partsD (Rows.laid_loop_example_s01725_impl_stmtRules (H:=Unit))).getD (j / 5) .nil)).getD (j % 5) .nil)):=by
   rw [<-this];congr 1;exact e.symm
  have e2:(stmtTab.map Value.bool)[j]? = some (litV ((partsD ((partsD (Rows.laid_loop_example_s01725_impl_stmtRules (H:=Unit))).getD (j / 5) .nil)).getD (j % 5) .nil)):=by
   rw [<-stmtTab_is]
   simp [List.getElem?_map,hj]
  have e3:(stmtTab.map Value.bool)[j]? = some (.bool (stmtTab.getD j false)):=by
   have hl:j<stmtTab.length:=hj
   simp [List.getD,hl]
  rw [e2] at e3
  rw [<-e3]
  simpa using e'
 have l0:=World.block_lt_of_cell? _ _ (cN 0 (by omega))
 have l1:=World.block_lt_of_cell? _ _ (cS 0 (by omega))
 simp only at l0 l1
 exact ⟨cN,fun _=>cS,l0,l1⟩
theorem door_met (os:Os) (args:Array Value):laidMetH Tryz.prog Rows.fnExactSimplifyRow.laid ((World.doorLaid Tryz.prog 36 os).forCall (fun _ _=>0) ⟨#[],args,[]⟩).memory:=
 laidMetH_of_parts3 (fuel:=8) (laidMet_of_run' 8 (by kernel_rfl) (by kernel_rfl)) (by kernel_rfl) (by kernel_rfl)
theorem vars_below {H:Type} {enc:TypeId × Value->H} {W W':World} (hb:Below W.heap.size W W') : ∀ {ns:List String} {ds:List (DataW H)} {ps:List MemPlace},(∀n∈ns,∀g t,Tryz.prog.globalNamed n=some g->(Tryz.prog.globals[g]?).map (·.type)=some t->Tryz.prog.readableRec t=true/\t<Tryz.prog.types.size/\g<W.heap.size) ->
  DataW.TrodVars enc Tryz.prog W (fun _=>true) ns ds ps->(∀x∈ps,x.block<W.heap.size)->DataW.TrodVars enc Tryz.prog W' (fun b=>decide (b<W.heap.size)) ns ds ps
 | [],[],ps,_,h,_=>h
 | [],_::_,ps,_,h,_=>by simp [DataW.TrodVars] at h
 | _::_,[],ps,_,h,_=>by simp [DataW.TrodVars] at h
 | n::ns,d::ds,ps,hr,h,hlt=>by
  obtain ⟨g,t,cs,fuel,p,q,hg,ht,hv,hd,hrest,rfl⟩:=h
  obtain ⟨r1,r2,r3⟩:=hr n (by simp) g t hg ht
  have hT:DataW.Trod enc Tryz.prog W 0 (fun _=>true) true t (.agg cs) d p:=⟨fuel,by simpa [Value.cells] using hd⟩
  obtain ⟨fuel',hd'⟩:=Below.trod laidOut r1 r2 hT hb (fun x hx=>hlt x (by simp [hx]))
  exact ⟨g,t,cs,fuel',p,q,hg,ht,var?_below hb hg r3 hv,by simpa [Value.cells] using hd',vars_below hb (fun m hm=>hr m (by simp [hm])) hrest (fun x hx=>hlt x (by simp [hx])),rfl⟩
theorem lifted (os:Os) (started:os.Started) (H:Type) (enc:TypeId × Value->H) :
  ReturnsInHanded {} Tryz.checked os 4 .any (fun w args=>(Rows.fnExactSimplifySpec.pre enc Tryz.prog Tryz.f4 [] false w args/\laidMetH Tryz.prog Rows.fnExactSimplifyRow.laid w)/\sizedMet enc Tryz.prog Tryz.f4 (OpenSpec.ofChange Rows.fnExactSimplifySpec) false w args)
   (Rows.fnExactSimplifySpec.post enc Tryz.prog Tryz.f4 false true false false):=by
 refine returnsInHanded_of_change_and (C:=Tryz.checked) (X:=fun w _=>laidMetH Tryz.prog Rows.fnExactSimplifyRow.laid w) (fun _ _ _ hh h=>h.of_heap hh) own started (by kernel_rfl) Tryz.func4
  (ChangeSpec.witness_shaped (enc:=enc) (C:=Tryz.checked) (os:=os) (X:=fun w _=>laidMetH Tryz.prog Rows.fnExactSimplifyRow.laid w) false (World.doorLaid Tryz.prog 36 os) #[.agg #[.slice none 0 0,.slice none 0 0]] 8 rfl (World.shaped_of_RefB (by kernel_rfl) (by kernel_rfl)) (by kernel_rfl) (by kernel_rfl) (by kernel_rfl) (door_met os _)) ?_
 intro W base args ds gs before hval0 hW _ _ hL _
 have hval : ∀(j:Nat) t v,Tryz.f4.params[j]? = some t->args[j]? = some v->Value.okWide Tryz.prog W .any base t v:=hval0
 have hW':=hW
 obtain ⟨p,q,hA0,hV,rfl,hfz,hnd⟩:=hW
 have hA:DataW.TrodAll enc Tryz.prog W 0 (fun _=>true) true Tryz.f4.params.toList args.toList ds p:=hA0
 rw [Tryz.params4] at hA hval
 obtain ⟨v0,vs0,d0,ds0,p0,q0,hargs,rfl,rfl,h0,r0⟩:=trodAll_cons hA
 obtain ⟨rfl,rfl,rfl⟩:=trodAll_nil r0
 obtain rfl:args = #[v0]:=by cases args;simp_all
 have hT:=tab_of_laid hL
 have hV1:DataW.TrodVars enc Tryz.prog W (fun _=>true) ["loop.example/s01725/impl.stmtRules", "loop.example/s01725/impl.nodeRules"] gs q:=hV
 have hVlt:=DataW.TrodVars.lt hV1
 have k0:=h0
 have lt0 : ∀x∈p0,x.block<W.heap.size:=by obtain ⟨m,hm⟩:=k0;exact DataW.trod_lt m _ _ _ hm
 obtain ⟨c0,c1,y0,y1,m,rfl,rfl,rfl,hy0,hy1⟩:=open_agg2 Tryz.underlying25 (by kernel_rfl) (by kernel_rfl) (hval 0 25 v0 rfl rfl) h0
 obtain ⟨gsl,hg,wg⟩:=rd_globs hy0
 obtain ⟨fsl,hf,wf⟩:=rd_funcs hy1
 obtain ⟨_,_,_,_,e0,_,_,_,_,_,e1,_,rfl,-⟩:=trodVars_two hV1
 refine (law_simplify ⟨gsl,fsl⟩ c0 c1 W hT ⟨wg,wf⟩ hg hf).mono fun e W' ⟨he,bel⟩ => ?_
 subst he
 refine ⟨_,rfl,_,_,_,[],_,_,hW',trodAll_mk1 (shut_bool Tryz.underlying4 _),trodAll_cons_mk (Below.trod laidOut (by kernel_rfl) (of_decide_eq_true (by kernel_rfl)) k0 bel lt0) trodAll_mk0,vars_below bel ?_ hV1 hVlt,bel.frame _,fun h=>by cases h⟩
 intro n hn g t hg ht
 have hsz:=hT.size
 have hn2:n= "loop.example/s01725/impl.stmtRules" ∨ n= "loop.example/s01725/impl.nodeRules" := by
  have hn3:n ∈ ["loop.example/s01725/impl.stmtRules", "loop.example/s01725/impl.nodeRules"]:=hn
  simpa using hn3
 rcases hn2 with rfl | rfl
 ·obtain rfl:=Option.some.inj (gStmt.symm.trans hg)
  obtain rfl:=Option.some.inj (tStmt.symm.trans ht)
  exact ⟨by kernel_rfl,of_decide_eq_true (by kernel_rfl),by omega⟩
 ·obtain rfl:=Option.some.inj (gNode.symm.trans hg)
  obtain rfl:=Option.some.inj (tNode.symm.trans ht)
  exact ⟨by kernel_rfl,of_decide_eq_true (by kernel_rfl),by omega⟩
theorem row_holds:Rows.FnExactSimplifySaid:=
 OpenClaim.holds_of_wide 4 Tryz.f4 rfl rfl rfl rfl rfl rfl rfl ⟨rfl,rfl,rfl,rfl,rfl⟩ rfl rfl rfl rfl rfl (by kernel_rfl) Tryz.func4 (by kernel_rfl)
  (of_decide_eq_true (by kernel_rfl)) (by unfold Func.isWrapper;first | (rw [if_pos (by decide +kernel)];kernel_rfl) | (rw [if_neg (by decide +kernel)];exact ⟨rfl,rfl⟩))
  (fun os started H enc _=>lifted os started H enc)
theorem card_holds:Rows.FnExactSimplifyCardSaid:=
 Claim7.holds_tied_plain_at .later [] [.data,.data] true _ true
  row_holds (fun _ h=>by cases h) (by kernel_rfl) (fun _ h=>by cases h) fnExactSimplify_row_tie rfl ⟨rfl,rfl⟩ (by kernel_rfl) rfl
  (fun f fn hf hfn=>by
   obtain rfl:f=4:=Option.some.inj ((show Tryz.prog.funcNamed "loop.example/s01725/laws.FnExactSimplify" = some 4 by kernel_rfl).symm.trans hf) |>.symm
   obtain rfl:fn=Tryz.f4:=(Option.some.inj (Tryz.func4.symm.trans hfn)).symm
   exact ⟨by kernel_rfl,fun j t ht=>by
    rw [Tryz.params4] at ht
    have hm:t ∈ [25]:=by simpa using Array.mem_of_getElem? ht
    have hall:([25].all fun u => !Tryz.prog.wantsStandIn u)=true:=by kernel_rfl
    exact (show Tryz.prog.wantsStandIn t=false by simpa using List.all_eq_true.1 hall t hm)⟩)
  (by kernel_rfl)
#print axioms card_holds
end Go.Proofs.YtmddmgpijpjpbaaGreatDoor
