import Derived.Test.YtlamjfhhefcohaaGreatDoorP26
import Derived.Test.YtlamjfhhefcohaaGreatDoorP06
set_option linter.unusedSectionVars false
variable [Inhabited Go.Proofs.YtlamjfhhefcohaaGreatDoor.Pick]
namespace Go.Proofs.YtlamjfhhefcohaaGreatDoor
open Go.RowKit
set_option linter.all false
set_option maxRecDepth 100000
set_option maxHeartbeats 16000000
structure Gn where
 vc:Value
 vp:Value
 vs:Value
 vl:Value
 m:Int
 cs:List ByteArray
 ps:List Int
 ss:List ByteArray
 ls:List ByteArray
structure eO (S:Nat->Prop) (w:World) (G:Gn) (K:Nat):Prop where
 c:∀W,am S w W->Strs W G.vc G.cs
 p:∀W,am S w W->Ints W G.vp G.ps
 s:∀W,am S w W->Strs W G.vs G.ss
 l:∀W,am S w W->Strs W G.vl G.ls
 cp:G.ps.length=G.cs.length
 c4:G.cs.length<=10
 pb:∀x∈G.ps,0<=x/\x<=6
 ns:(∀x∈G.cs,x.size<=100000)/\(∀x∈G.ss,x.size<=100000)/\∀x∈G.ls,x.size<=100000
 sl:G.ss.length<=K
 ll:G.ls.length<=K
 mb:0<=G.m/\G.m<=K
theorem eO.tcs{S:Nat->Prop}{w w':World}{G:Gn}{K:Nat}(h:eO S w G K)(ht:am S w w'):eO S w' G K:=
 ⟨fun W hW=>h.c W (ht.trans hW),fun W hW=>h.p W (ht.trans hW),fun W hW=>h.s W (ht.trans hW),fun W hW=>h.l W (ht.trans hW),h.cp,h.c4,h.pb,h.ns,h.sl,h.ll,h.mb⟩
theorem eO.more{S:Nat->Prop}{w:World}{G:Gn}{K K':Nat}(h:eO S w G K)(hk:K<=K'):eO S w G K':=
 ⟨h.c,h.p,h.s,h.l,h.cp,h.c4,h.pb,h.ns,by have:=h.sl;omega,by have:=h.ll;omega,by have:=h.mb;omega⟩
theorem eO.less{S S':Nat->Prop}{w:World}{G:Gn}{K:Nat}(h:eO S w G K)(hs:∀k,S' k->S k):eO S' w G K:=
 ⟨fun W hW=>h.c W (hW.mono hs),fun W hW=>h.p W (hW.mono hs),fun W hW=>h.s W (hW.mono hs),fun W hW=>h.l W (hW.mono hs),h.cp,h.c4,h.pb,h.ns,h.sl,h.ll,h.mb⟩
def bI(e:List Nd)(L:Nat):Prop:=e.length<=L/\∀n∈e,n.name.size<=100000
theorem bI.more{e:List Nd}{L L':Nat}(h:bI e L)(hl:L<=L'):bI e L':=⟨t_ h.1 hl,h.2⟩
theorem bI.app{a b:List Nd}{L L':Nat}(h:bI a L)(h':bI b L'):bI (a++b) (L+L'):=by
 refine⟨by rw[l_a];exact Nat.add_le_add h.1 h'.1,fun n hn=>?_⟩;rcases List.mem_append.1 hn with hn|hn
 ·exact h.2 n hn
 ·exact h'.2 n hn
theorem bI.one{k v:Int}{s:ByteArray}(h:s.size<=100000):bI [⟨k,v,s⟩] 1:=⟨n_,fun n hn=>by simp at hn;subst hn;exact h⟩
theorem bI.nil:bI [] 0:=⟨n_,fun n hn=>by cases hn⟩
theorem aQ(w:World)(B:Nat)(hB:B<=w.heap.size)(k v:Int)(s:ByteArray):aF B (w.alloc (.cells #[.int .i64 k,.int .i64 v,.string s] 48)) (.slice (some ⟨w.heap.size,0,none⟩) 1 1) [⟨k,v,s⟩]:=
 World.ownsRow_lit w #[.int .i64 k,.int .i64 v,.string s] 1 hB d_ rfl
theorem cE(w:World)(B:Nat)(hB:B<=w.heap.size):aF B (w.alloc (.cells #[] 48)) (.slice (some ⟨w.heap.size,0,none⟩) 0 0) []:=
 World.ownsRow_lit w #[] 0 hB d_ rfl
theorem kF{w:World}{v:Value}{ps:List ByteArray}(h:Strs w v ps)(i:Nat)(hi:i<ps.length):∃b off c,v=.slice (some ⟨b,off,none⟩) ps.length c/\w.cell? ⟨b,off+i,none⟩=some (.string ps[i]):=by
 obtain⟨a,c,rfl,-,-,h⟩:=h;obtain⟨b,off,rfl,hc⟩:=h o_;exact⟨b,off,c,rfl,hc i hi⟩
def mK:Nat->Nat
 | 0=>1
 | d+1=>4*mK d+3
def mL:Nat->Nat
 | 0=>1
 | d+1=>6*mL d+3
end Go.Proofs.YtlamjfhhefcohaaGreatDoor
