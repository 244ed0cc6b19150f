import Derived.Test.YtlamjfhhefcohaaGreatDoorP13
import Derived.Test.YtlamjfhhefcohaaGreatDoorP22
import Derived.Lib.AppendIntMem
set_option linter.unusedSectionVars false
variable [Inhabited Go.Proofs.YtlamjfhhefcohaaGreatDoor.Pick]
namespace Go.Proofs.YtlamjfhhefcohaaGreatDoor
open Go.Proofs.Tryz
open Go.RowKit
set_option linter.all false
set_option maxRecDepth 100000
set_option maxHeartbeats 16000000
variable{w W W' w0:World}{P B o A N g G:Nat}{l:List UInt8}{v x y z:Value}{e:List Nd}{b:Nat->Nat}{k:Int}{s:ByteArray}
theorem wrap64(n:Int):IntKind.i64.wrap n=(n+9223372036854775808)%18446744073709551616-9223372036854775808:=by
 simp[IntKind.wrap,IntKind.bits,IntKind.signed];omega
def jI(w:World):Prop:=Lib.TabIs prog w "internal/strconv.uint64pow10" .u64 Lib.pow10Tab
theorem jI.below{w':World}(h:jI w)(hb:Below w.heap.size w w'):jI w':=Lib.tabBelow_of_tabIs h w' hb
theorem sO(n:Int)(h0: -2147483648<=n)(h1:n<=2147483647)(w:World)(hP:jI w):
  Calls prog 71 #[.int .i64 n,.int .i64 10] w fun e w'=>e=.returned (.string (tx (Lib.itoa n)))/\Below w.heap.size w w':=by
 refine(Tryz.strconv_FormatInt_10 n o_ o_ w hP).mono ?_;rintro e w' ⟨rfl,k,os,rfl⟩;exact⟨rfl,Lib.below_grow _ _ n_ _ _⟩
def oD(P:Nat)(W:World)(B:Nat):Prop:=B<W.heap.size/\B≠P/\some B≠rb W P
theorem oD.wr(h:oD P W B)(hW:Wr P W W'):oD P W' B:=by
 refine⟨l_ h.1 hW.size,h.2.1,fun e=>?_⟩;rcases hW.row B e.symm with h1|h1
 ·exact h.2.2 h1.symm
 ·have:=h.1;omega
theorem jJ(hO:Out w P l)(hb:Below w.heap.size w W)(h1:w.heap.size<=B)(h2:B<W.heap.size):oD P W B:=by
 have hP:=hO.1;refine⟨h2,o_,fun e=>?_⟩;unfold rb at e;rw[hb.cell (p:=⟨P,0,none⟩) hP]at e;have:=hO.rb_lt (k:=B) (by unfold rb;exact e.symm);omega
theorem oD.cell(h:oD P W B)(hW:Wr P W W')(hc:W.cell? ⟨B,o,none⟩=some v):W'.cell? ⟨B,o,none⟩=some v:=hW.cell h.2.1 h.2.2 hc
def kq(w0:World)(P:Nat)(W:World)(v:Value)(e:List Nd)(b:Nat->Nat)(A:Nat):Prop:=
 ∃a cap,v=.slice a A cap/\A<=cap/\cap<=9223372036854775807/\(0<A->∃B,a=some ⟨B,0,none⟩/\oD P W B/\∀i,i<A->∃vi,W.cell? ⟨B,i,none⟩=some vi/\ax w0 vi (bH e b i))
theorem kq.wr(h:kq w0 P W v e b A)(hW:Wr P W W'):kq w0 P W' v e b A:=by
 obtain⟨a,Ja,rfl,hl,hm,h⟩:=h;refine⟨a,Ja,rfl,hl,hm,fun h0=>?_⟩;obtain⟨B,rfl,hF,hc⟩:=h h0;refine⟨B,rfl,hF.wr hW,fun i hi=>?_⟩;obtain⟨vi,h1,h2⟩:=hc i hi;exact⟨vi,hF.cell hW h1,h2⟩
theorem Kids.far(h:Kids w0 W N v e b A)(hO:Out w P l)(hb:Below w.heap.size w W)(hN:w.heap.size<=N):kq w0 P W v e b A:=by
 obtain⟨a,Ja,rfl,hl,hm,h⟩:=h;refine⟨a,Ja,rfl,hl,hm,fun h0=>?_⟩;obtain⟨B,rfl,Jb,hB,hc⟩:=h h0;exact⟨B,rfl,jJ hO hb o_ hB,hc⟩
theorem Kids.set(h:Kids w0 w N v e b A)(hg:g<N):Kids w0 (w.setCell ⟨g,o,none⟩ x) N v e b A:=by
 obtain⟨a,Jb,rfl,hl,hm,h⟩:=h;refine⟨a,Jb,rfl,hl,hm,fun h0=>?_⟩;obtain⟨B,rfl,Ja,hB,hc⟩:=h h0;refine⟨B,rfl,Ja,by simpa using hB,fun i hi=>?_⟩;obtain⟨vi,h1,h2⟩:=hc i hi;refine⟨vi,?_,h2⟩;rw[s_]
 ·exact h1
 ·intro h;simp only[Addr.mk.injEq]at h;omega
def Fo(P:Nat)(W:World)(G:Nat)(k v:Int)(s:ByteArray):Prop:=oD P W G/\W.cell? ⟨G,0,none⟩=some (.int .i64 k)/\W.cell? ⟨G,1,none⟩=some (.int .i64 v)/\W.cell? ⟨G,2,none⟩=some (.string s)
theorem An{w2:World}{t:TypeId}(h:Below ((w.alloc (.cells #[x,y,z] t)).drew).heap.size ((w.alloc (.cells #[x,y,z] t)).drew) w2):w2.cell? ⟨w.heap.size,0,none⟩=some x/\w2.cell? ⟨w.heap.size,1,none⟩=some y/\w2.cell? ⟨w.heap.size,2,none⟩=some z/\∀j,w2.frozen? ⟨w.heap.size,j,none⟩=false:=by
 refine⟨?_,?_,?_,fun j=>?_⟩
 ·rw[h.cell i_];simp
 ·rw[h.cell i_];simp
 ·rw[h.cell i_];simp
 ·rw[h.frozen i_];simp
theorem Ef{n:Nd}(h:aB n=true)(h6:n.kind=6):0<=n.val/\n.val<=2:=by
 unfold aB at h;simp[h6]at h;omega
theorem yv(v:Int)(h0:0<=v)(h2:v<=2)(W:World):(Instr.slice 9 (.string {data:=#[45,33,126]}) (some (.int .i64 v)) (some (.int .i64 (v+1))) none).run prog W=.ok (.string (tx (unTab.getD v.toNat []))) W:=by
 have:v=0∨v=1∨v=2:=by omega
 rcases this with rfl|rfl|rfl <;> (show _=_;kernel_rfl)
theorem Ao(l:List UInt8)(b:Bool):l.length<=(cW l b).length:=by
 cases b <;> simp[cW] <;> omega
theorem fX(S:Nat → List UInt8)(i j:Nat)(h:i ≤ j):(aA S i).length ≤ (aA S j).length:= by
  induction j with
  | zero=>obtain rfl:i=0:= by omega
          exact n_
  | succ j ih=>
    by_cases e:i=j+1
    · subst e; exact n_
    · have:= ih o_
      simp only[aA, List.length_append];omega
theorem ro(n:Nd)(h:aB n=true):1<=strN n/\strN n<=11:=by
 unfold strN;split
 ·omega
 ·split
  ·omega
  ·split
   ·rename_i h7;obtain⟨h0,Ja⟩:=o6 h h7;have:n.val=0∨n.val=1∨n.val=2∨n.val=3∨n.val=4∨n.val=5∨n.val=6∨n.val=7∨n.val=8∨n.val=9∨n.val=10∨n.val=11∨n.val=12∨n.val=13∨n.val=14∨n.val=15:=by omega
    rcases this with e|e|e|e|e|e|e|e|e|e|e|e|e|e|e|e <;> simp[e,ij]
   ·omega
theorem Ap{x' y' z':Value}(h0:w.cell? ⟨g,0,none⟩=some x)(h1:w.cell? ⟨g,1,none⟩=some y)(h2:w.cell? ⟨g,2,none⟩=some z):
  (((w.setCell ⟨g,0,none⟩ x').setCell ⟨g,1,none⟩ y').setCell ⟨g,2,none⟩ z').cell? ⟨g,0,none⟩=some x'/\(((w.setCell ⟨g,0,none⟩ x').setCell ⟨g,1,none⟩ y').setCell ⟨g,2,none⟩ z').cell? ⟨g,1,none⟩=some y'/\(((w.setCell ⟨g,0,none⟩ x').setCell ⟨g,1,none⟩ y').setCell ⟨g,2,none⟩ z').cell? ⟨g,2,none⟩=some z':=by
 have Jb:(⟨g,0,none⟩:Addr)≠⟨g,1,none⟩:=i_;have Jd:(⟨g,0,none⟩:Addr)≠⟨g,2,none⟩:=i_;have Ja:(⟨g,1,none⟩:Addr)≠⟨g,2,none⟩:=i_;have Je:(⟨g,1,none⟩:Addr)≠⟨g,0,none⟩:=i_;have Jf:(⟨g,2,none⟩:Addr)≠⟨g,0,none⟩:=i_;have Jc:(⟨g,2,none⟩:Addr)≠⟨g,1,none⟩:=i_;refine⟨?_,?_,?_⟩
 ·rw[s_ _ _ _ _ (by first|exact Jd|exact Jf),s_ _ _ _ _ (by first|exact Jb|exact Je)];exact World.cell?_setCell_same _ _ _ h0
 ·rw[s_ _ _ _ _ (by first|exact Ja|exact Jc)];refine World.cell?_setCell_same _ _ _ (u:=y) ?_;rw[s_ _ _ _ _ (by first|exact Jb|exact Je)];exact h1
 ·refine World.cell?_setCell_same _ _ _ (u:=z) ?_;rw[s_ _ _ _ _ (by first|exact Ja|exact Jc),s_ _ _ _ _ (by first|exact Jd|exact Jf)];exact h2
end Go.Proofs.YtlamjfhhefcohaaGreatDoor
