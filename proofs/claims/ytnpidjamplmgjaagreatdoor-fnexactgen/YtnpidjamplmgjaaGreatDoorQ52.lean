import Derived.Test.YtnpidjamplmgjaaGreatDoorQ51
import Derived.Deep.Slices
import Derived.Deep.Fields
import Derived.Lib.SmallJoins
namespace Go.Proofs.YtnpidjamplmgjaaGreatDoor
open Go.RowKit Go.Deep Go.ChangeShapes Go.WideShapes
set_option linter.unusedVariables false
set_option linter.unusedSimpArgs false
set_option maxRecDepth 100000
set_option maxHeartbeats 16000000
section
variable {H:Type} {enc:TypeId × Value->H} {W:World} {base:Nat} {spare:Nat->Bool} {held:Bool}
theorem fields1 {t:TypeId} {fs:Array Field} {fuel:Nat} {cs:List Value} {x:DataW H × List MemPlace} (ht:Tryz.prog.underlying t=some (.struct fs)) (hone:oneCellFields Tryz.prog fs=true) (hC:Tryz.prog.cellsOf t=fs.size) (h:DataW.trod enc Tryz.prog W base spare held fuel t cs=some x) :
  ∃n,cs.length=fs.size/\∀i f,fs[i]? = some f->∃y,DataW.trod enc Tryz.prog W base spare held n f.type [cs.getD i .nilFunc]=some y:=by
 obtain ⟨xs,n,_,_,hl,hx,hf⟩:=DataW.trod_struct ht h
 refine ⟨n,hl.trans hC,fun i f hi => ?_⟩
 have hlt:i<fs.size:=(Array.getElem?_eq_some_iff.1 hi).1
 obtain ⟨o,c⟩:=hone_of hone i f hi
 have:=hf i f hi
 rw [o,c,take1_drop cs i .nilFunc o_] at this
 rw [this]
 exact ⟨xs[i]' o_,by simp⟩
theorem elem_cells {b off m i k:Nat} {cs:List Value} (h:W.cells? base ((⟨b,off,none⟩:Addr).add (i*m)) m=some cs) (hk:k<m):W.cell? ⟨b,off+i*m+k,none⟩=cs[k]? := by
 obtain ⟨_,_,hc⟩:=World.cells?_some h
 have:=hc k hk
 rw [add_add] at this
 rw [<-this]
 congr 1
 simp only [Addr.add]
 split
 ·simp only [Addr.mk.injEq,and_true,true_and];omega
 ·simp only [Addr.mk.injEq,and_true,true_and];omega
theorem spot_none {a:Addr} {m:Nat} {cs:List Value} (h:W.cells? base (a.add (0*m)) m=some cs) (hm:0<m) : ∃b off,a=⟨b,off,none⟩:=by
 obtain ⟨b,off,spot⟩:=a
 obtain ⟨_,hl,hc⟩:=World.cells?_some h
 have h0:=hc 0 hm
 rw [List.getElem?_eq_getElem o_] at h0
 have hs:spot=none:=by simpa [Addr.add] using World.cell?_spot h0
 exact ⟨b,off,by rw [hs]⟩
theorem slice_list {α : Type} (i0 : α) {t e:TypeId} {m fuel:Nat} {v:Value} {x:DataW H × List MemPlace} (ht:Tryz.prog.underlying t=some (.slice e)) (hm:Tryz.prog.cellsOf e=m) (hpos:0<m) (P:α->List Value->Prop)
  (hel : ∀n cs y,DataW.trod enc Tryz.prog W base spare held n e cs=some y->∃z,P z cs) (h:DataW.trod enc Tryz.prog W base spare held fuel t [v]=some x) :
  ∃(a:Option Addr) (ns:List α) (cap:Nat),v = .slice a ns.length cap/\ns.length<=cap/\cap<=9223372036854775807/\(∀z∈ns,∃cs,P z cs) /\
   (0<ns.length->∃b off,a=some ⟨b,off,none⟩/\∀j (hj:j<ns.length),∃cs,P ns[j] cs/\∀k,k<m->W.cell? ⟨b,off+j*m+k,none⟩=cs[k]?):=by
 haveI : Inhabited α := ⟨i0⟩
 rcases open_slice ht h with ⟨hc,_⟩ | ⟨a,len,cap,mm,n,D,Pl,hcs,_,hl,hcap,hmm,_,hx⟩
 ·simp only [List.cons.injEq,and_true] at hc
  subst hc
  exact ⟨none,[],0,rfl,Nat.le_refl _,by omega,by simp,fun h=>absurd h (Nat.lt_irrefl _)⟩
 ·simp only [List.cons.injEq,and_true] at hcs
  subst hcs
  unfold maxLen at hcap
  rw [hm] at hx
  have hle:len<=mm:=by rw [hmm];split <;> omega
  obtain ⟨f,hf⟩:=choose_lt (α:=α) (n:=len) (p:=fun i z=>∃cs,P z cs/\W.cells? base (a.add (i*m)) m=some cs) (fun i hi=>by
   obtain ⟨cs,h1,h2⟩:=hx i o_
   obtain ⟨z,hz⟩:=hel _ _ _ h2
   exact ⟨z,cs,hz,h1⟩)
  refine ⟨some a,(List.range len).map f,cap,by simp,by simpa using hl,by omega,fun z hz => ?_,fun h0 => ?_⟩
  ·obtain ⟨i,hi,rfl⟩:=List.mem_map.1 hz
   obtain ⟨cs,h1,_⟩:=hf i (List.mem_range.1 hi)
   exact ⟨cs,h1⟩
  ·simp only [List.length_map,List.length_range] at h0
   obtain ⟨cs0,_,hc0⟩:=hf 0 h0
   obtain ⟨b,off,rfl⟩:=spot_none hc0 hpos
   refine ⟨b,off,rfl,fun j hj => ?_⟩
   simp only [List.length_map,List.length_range] at hj
   obtain ⟨cs,h1,h2⟩:=hf j hj
   refine ⟨cs,by simpa using h1,fun k hk=>elem_cells h2 hk⟩
def cellsN (n:Nd) (cs:List Value):Prop:=cs = [.int .i64 n.kind,.int .i64 n.val,.string n.name]/\n.name.size<=9223372036854775807
theorem list3 {cs:List Value} (h:cs.length=3):cs = [cs.getD 0 .nilFunc,cs.getD 1 .nilFunc,cs.getD 2 .nilFunc]:=by
 match cs,h with
 | [a,b,c],_=>rfl
theorem list2 {cs:List Value} (h:cs.length=2):cs = [cs.getD 0 .nilFunc,cs.getD 1 .nilFunc]:=by
 match cs,h with
 | [a,b],_=>rfl
theorem list6 {cs:List Value} (h:cs.length=6):cs = [cs.getD 0 .nilFunc,cs.getD 1 .nilFunc,cs.getD 2 .nilFunc,cs.getD 3 .nilFunc,cs.getD 4 .nilFunc,cs.getD 5 .nilFunc]:=by
 match cs,h with
 | [a,b,c,d,e,f],_=>rfl
theorem rd_int {fuel:Nat} {c:Value} {y:DataW H × List MemPlace} (h:DataW.trod enc Tryz.prog W base spare held fuel 2 [c]=some y) : ∃z:Int,c = .int .i64 z:=by
 obtain ⟨z,hz,_,_⟩:=DataW.trod_int Tryz.underlying2 h
 exact ⟨z,by simpa using hz⟩
theorem rd_str {fuel:Nat} {c:Value} {y:DataW H × List MemPlace} (h:DataW.trod enc Tryz.prog W base spare held fuel 9 [c]=some y) : ∃s:ByteArray,c = .string s/\s.size<=9223372036854775807:=by
 obtain ⟨s,hs,_,hm⟩:=DataW.trod_string Tryz.underlying9 h
 unfold maxLen at hm
 exact ⟨s,by simpa using hs,by omega⟩
theorem rd_node {fuel:Nat} {cs:List Value} {y:DataW H × List MemPlace} (h:DataW.trod enc Tryz.prog W base spare held fuel 239 cs=some y) : ∃n,cellsN n cs:=by
 obtain ⟨n,hl,hf⟩:=fields1 Tryz.underlying239 (by kernel_rfl) (by kernel_rfl) h
 obtain ⟨_,h0⟩:=hf 0 _ rfl
 obtain ⟨_,h1⟩:=hf 1 _ rfl
 obtain ⟨_,h2⟩:=hf 2 _ rfl
 obtain ⟨k,e0⟩:=rd_int h0
 obtain ⟨v,e1⟩:=rd_int h1
 obtain ⟨s,e2,hs⟩:=rd_str h2
 exact ⟨⟨k,v,s⟩,by rw [list3 hl,e0,e1,e2],hs⟩
theorem rd_nodes {fuel:Nat} {v:Value} {y:DataW H × List MemPlace} (h:DataW.trod enc Tryz.prog W base spare held fuel 144 [v]=some y) : ∃ns,Nodes W v ns/\wfNs ns:=by
 obtain ⟨a,ns,cap,rfl,hl,hc,hall,hx⟩:=slice_list (⟨0, 0, ⟨#[]⟩⟩ : Nd) (m:=3) Tryz.underlying144 (by kernel_rfl) o_ cellsN (fun n cs y h=>rd_node h) h
 refine ⟨ns,⟨a,cap,rfl,hl,hc,fun h0 => ?_⟩,by omega,fun n hn => ?_⟩
 ·obtain ⟨b,off,rfl,hj⟩:=hx h0
  refine ⟨b,off,rfl,fun j hlt => ?_⟩
  obtain ⟨cs,⟨rfl,_⟩,hk⟩:=hj j hlt
  exact ⟨hk 0 o_,hk 1 o_,hk 2 o_⟩
 ·obtain ⟨cs,_,hs⟩:=hall n hn
  exact hs
def cellsS (W:World) (s:St) (cs:List Value):Prop:=∃ve vf,cs = [.int .i64 s.kind,.string s.name,ve,vf,.int .i64 s.thn,.int .i64 s.els]/\Nodes W ve s.e/\Nodes W vf s.f/\wfSt s
theorem rd_stmt {fuel:Nat} {cs:List Value} {y:DataW H × List MemPlace} (h:DataW.trod enc Tryz.prog W base spare held fuel 146 cs=some y) : ∃s,cellsS W s cs:=by
 obtain ⟨n,hl,hf⟩:=fields1 Tryz.underlying146 (by kernel_rfl) (by kernel_rfl) h
 obtain ⟨_,h0⟩:=hf 0 _ rfl
 obtain ⟨_,h1⟩:=hf 1 _ rfl
 obtain ⟨_,h2⟩:=hf 2 _ rfl
 obtain ⟨_,h3⟩:=hf 3 _ rfl
 obtain ⟨_,h4⟩:=hf 4 _ rfl
 obtain ⟨_,h5⟩:=hf 5 _ rfl
 obtain ⟨k,e0⟩:=rd_int h0
 obtain ⟨s,e1,hs⟩:=rd_str h1
 obtain ⟨es,n2,w2⟩:=rd_nodes h2
 obtain ⟨fs,n3,w3⟩:=rd_nodes h3
 obtain ⟨t,e4⟩:=rd_int h4
 obtain ⟨l,e5⟩:=rd_int h5
 exact ⟨⟨k,s,es,fs,t,l⟩,_,_,by rw [list6 hl,e0,e1,e4,e5];rfl,n2,n3,hs,w2,w3⟩
theorem rd_stmts {fuel:Nat} {v:Value} {y:DataW H × List MemPlace} (h:DataW.trod enc Tryz.prog W base spare held fuel 79 [v]=some y) : ∃ns,Stmts W v ns/\wfSs ns:=by
 obtain ⟨a,ns,cap,rfl,hl,hc,hall,hx⟩:=slice_list (⟨0, ⟨#[]⟩, [], [], 0, 0⟩ : St) (m:=6) Tryz.underlying79 (by kernel_rfl) o_ (cellsS W) (fun n cs y h=>rd_stmt h) h
 refine ⟨ns,⟨a,cap,rfl,hl,hc,fun h0 => ?_⟩,by omega,fun n hn => ?_⟩
 ·obtain ⟨b,off,rfl,hj⟩:=hx h0
  refine ⟨b,off,rfl,fun j hlt => ?_⟩
  obtain ⟨cs,⟨ve,vf,rfl,he,hf,_⟩,hk⟩:=hj j hlt
  exact ⟨ve,vf,⟨hk 0 o_,hk 1 o_,hk 2 o_,hk 3 o_,hk 4 o_,hk 5 o_⟩,he,hf⟩
 ·obtain ⟨cs,_,_,_,_,_,hs⟩:=hall n hn
  exact hs
def cellsP (s:ByteArray) (cs:List Value):Prop:=cs = [.string s]/\s.size<=9223372036854775807
theorem rd_strs {fuel:Nat} {v:Value} {y:DataW H × List MemPlace} (h:DataW.trod enc Tryz.prog W base spare held fuel 43 [v]=some y) : ∃ns,Strs W v ns/\wfPs ns:=by
 obtain ⟨a,ns,cap,rfl,hl,hc,hall,hx⟩:=slice_list (⟨#[]⟩ : ByteArray) (m:=1) Tryz.underlying43 (by kernel_rfl) o_ cellsP (fun n cs y h=>by
  obtain ⟨s,hs,_,hm⟩:=DataW.trod_string Tryz.underlying9 h
  unfold maxLen at hm
  exact ⟨s,hs,by omega⟩) h
 refine ⟨ns,⟨a,cap,rfl,hl,hc,fun h0 => ?_⟩,by omega,fun n hn => ?_⟩
 ·obtain ⟨b,off,rfl,hj⟩:=hx h0
  refine ⟨b,off,rfl,fun j hlt => ?_⟩
  obtain ⟨cs,⟨rfl,_⟩,hk⟩:=hj j hlt
  have:=hk 0 o_
  rw [show off+j*1+0=off+j by omega] at this
  exact this
 ·obtain ⟨cs,_,hs⟩:=hall n hn
  exact hs
def cellsG (g:Gl) (cs:List Value):Prop:=cs = [.string g.name,.int .i64 g.size]/\g.name.size<=9223372036854775807
theorem rd_glob {fuel:Nat} {cs:List Value} {y:DataW H × List MemPlace} (h:DataW.trod enc Tryz.prog W base spare held fuel 77 cs=some y) : ∃n,cellsG n cs:=by
 obtain ⟨n,hl,hf⟩:=fields1 Tryz.underlying77 (by kernel_rfl) (by kernel_rfl) h
 obtain ⟨_,h0⟩:=hf 0 _ rfl
 obtain ⟨_,h1⟩:=hf 1 _ rfl
 obtain ⟨s,e0,hs⟩:=rd_str h0
 obtain ⟨k,e1⟩:=rd_int h1
 exact ⟨⟨s,k⟩,by rw [list2 hl,e0,e1],hs⟩
theorem rd_globs {fuel:Nat} {v:Value} {y:DataW H × List MemPlace} (h:DataW.trod enc Tryz.prog W base spare held fuel 22 [v]=some y) : ∃ns,Globs W v ns/\wfGs ns:=by
 obtain ⟨a,ns,cap,rfl,hl,hc,hall,hx⟩:=slice_list (⟨⟨#[]⟩, 0⟩ : Gl) (m:=2) Tryz.underlying22 (by kernel_rfl) o_ cellsG (fun n cs y h=>rd_glob h) h
 refine ⟨ns,⟨a,cap,rfl,hl,hc,fun h0 => ?_⟩,by omega,fun n hn => ?_⟩
 ·obtain ⟨b,off,rfl,hj⟩:=hx h0
  refine ⟨b,off,rfl,fun j hlt => ?_⟩
  obtain ⟨cs,⟨rfl,_⟩,hk⟩:=hj j hlt
  exact ⟨hk 0 o_,hk 1 o_⟩
 ·obtain ⟨cs,_,hs⟩:=hall n hn
  exact hs
def cellsF (W:World) (s:Fu) (cs:List Value):Prop:=∃vp vb,cs = [.string s.name,vp,vb]/\Strs W vp s.params/\Stmts W vb s.body/\wfFu s
theorem rd_func {fuel:Nat} {cs:List Value} {y:DataW H × List MemPlace} (h:DataW.trod enc Tryz.prog W base spare held fuel 81 cs=some y) : ∃s,cellsF W s cs:=by
 obtain ⟨n,hl,hf⟩:=fields1 Tryz.underlying81 (by kernel_rfl) (by kernel_rfl) h
 obtain ⟨_,h0⟩:=hf 0 _ rfl
 obtain ⟨_,h1⟩:=hf 1 _ rfl
 obtain ⟨_,h2⟩:=hf 2 _ rfl
 obtain ⟨s,e0,hs⟩:=rd_str h0
 obtain ⟨ps,n1,w1⟩:=rd_strs h1
 obtain ⟨ss,n2,w2⟩:=rd_stmts h2
 exact ⟨⟨s,ps,ss⟩,_,_,by rw [list3 hl,e0];rfl,n1,n2,hs,w1,w2⟩
theorem rd_funcs {fuel:Nat} {v:Value} {y:DataW H × List MemPlace} (h:DataW.trod enc Tryz.prog W base spare held fuel 23 [v]=some y) : ∃ns,Funcs W v ns/\wfFs ns:=by
 obtain ⟨a,ns,cap,rfl,hl,hc,hall,hx⟩:=slice_list (⟨⟨#[]⟩, [], []⟩ : Fu) (m:=3) Tryz.underlying23 (by kernel_rfl) o_ (cellsF W) (fun n cs y h=>rd_func h) h
 refine ⟨ns,⟨a,cap,rfl,hl,hc,fun h0 => ?_⟩,by omega,fun n hn => ?_⟩
 ·obtain ⟨b,off,rfl,hj⟩:=hx h0
  refine ⟨b,off,rfl,fun j hlt => ?_⟩
  obtain ⟨cs,⟨vp,vb,rfl,he,hf,_⟩,hk⟩:=hj j hlt
  exact ⟨vp,vb,⟨hk 0 o_,hk 1 o_,hk 2 o_⟩,he,hf⟩
 ·obtain ⟨cs,_,_,_,_,_,hs⟩:=hall n hn
  exact hs
end
end Go.Proofs.YtnpidjamplmgjaaGreatDoor
