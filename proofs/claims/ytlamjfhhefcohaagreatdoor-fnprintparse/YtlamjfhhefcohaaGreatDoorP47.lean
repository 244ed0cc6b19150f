import Derived.Test.YtlamjfhhefcohaaGreatDoorP46
import Derived.Test.YtlamjfhhefcohaaGreatDoorP45
namespace Go.Proofs.YtlamjfhhefcohaaGreatDoor
open Go.Proofs.Tryz
open Go.RowKit
set_option linter.all false
set_option maxRecDepth 100000
set_option maxHeartbeats 16000000
variable[Inhabited Pick]
variable{B:Nat}{w:World}{t:Tr}
theorem bB.rd{vg vf:Value}{r:Tr}{Q:List FV}(h:bB B w vg vf r Q):dL w vg r.globals/\dM w vf r.funcs:=by
 obtain⟨K,h1,-⟩:=gZ.of_own h.gs;refine⟨yG h1,?_⟩;rw[<-h.map];exact h.fs.funcs
theorem yJ(h:cK t=true):(cZ t).length<=100000000:=by
 obtain⟨h1,h2,h3,h4⟩:=fY h;have a:=gH bP 50 t.globals (λg hg=>gI (h3 g hg)) t.globals.length;have b:=gH funcT 120000 t.funcs (λf hf=>gJ (h4 f hf)) t.funcs.length;rw[List.take_length]at a b;simp only[cZ,l_a];omega
theorem uR(h:1<=t.funcs.length):0<(cZ t).length:=by
 obtain⟨gs,fs⟩:=t;cases fs with
 | nil=>simp at h
 | cons f r=>simp only[cZ,l_a,List.flatMap_cons,funcT,l_c];omega
def yK(t:Tr):Prop:=∀f∈t.funcs,∀s∈f.body,∀n,n∈s.e∨n∈s.f->n.kind=1->0<=n.val
theorem AB(t:Tr)(w:World)(ht:cK t=true)(hn:yK t)(Ja:dz w)(Jc:w.rangeAt 7 0 fk)(Jd:yP w)(Jb:7<w.heap.size):
  ∃(x y:Int) (t':Tr),((x=0/\t'=t)∨x=1∨x=4)/\(∀W g c,ia W g (cZ t)->g<W.heap.size->(cZ t).length<=c->Calls prog 6 #[.slice (some ⟨g,0,none⟩) (cZ t).length c] W (CR (cZ t) (x,y,t') W))/\(∀W g c,ia W g (cZ t)->g<W.heap.size->(cZ t).length<=c->Below w.heap.size w W->Calls prog 8 #[.slice (some ⟨g,0,none⟩) (cZ t).length c] W (Ev (x,y,t') W)):=by
 have hl:=yJ ht;by_cases hb:20000<(cZ t).length
 ·exact⟨1,0,t00,.inr (.inl rfl),λW g c _ _ _=>q9 W g c _ hb o_,λW g c _ _ _ _=>uP W g c _ hb o_⟩
 ·obtain⟨K,h1,h2,h3⟩:=vo (cZ t);obtain⟨k,t',s,hR⟩:=zv (l:=cZ t) ⟨h3,h2,λi=>(dE _ i).1⟩ h1;have e:∃y t'',f_ (cZ t) t' s=((f_ (cZ t) t' s).1,y,t''):=⟨_,_,rfl⟩;refine⟨(f_ (cZ t) t' s).1,(f_ (cZ t) t' s).2.1,(f_ (cZ t) t' s).2.2,?_,λW g c g1 g2 g3=>ra W g c _ g1 g2 o_ g3 hR,λW g c g1 g2 g3 hW=>uQ W g c _ g1 g2 o_ g3 (λj v hv=>(c_ (a:=⟨7,0+j,none⟩) (hW.block 7 Jb)).trans (Jc j v hv)) (Jd.tcs (S:=λ_=>False) hW.tcs (λh=>h)) (Ja.below Ja.size hW) (l_ Jb hW.size) hR⟩;rcases rA ht hn hR with⟨e1,rfl⟩|e1
  ·unfold f_;rw[if_neg (λh=>h e1),if_pos ht];exact .inl ⟨rfl,rfl⟩
  ·unfold f_;rw[if_pos o_];exact .inr (.inr e1)
theorem pY(g1 g2 c1 c2:Nat)(l:List UInt8)(w:World)(h1:ia w g1 l)(h2:ia w g2 l):
  Calls prog 20 #[.slice (some ⟨g1,0,none⟩) l.length c1,.slice (some ⟨g2,0,none⟩) l.length c2] w λe w'=>e=.returned (.bool true)/\w'=w:=by
 have k1:=po h1 0 c1 0 l.length o_ (λ_=>rfl);have k2:=po h2 0 c2 0 l.length o_ (λ_=>rfl);rw[List.drop_zero,List.take_length]at k1 k2;generalize tx l=s at k1 k2;generalize l.length=n at k1 k2⊢;go_enter func20,ntmps20;go_wp2;go_ret;exact⟨rfl,rfl⟩
theorem uS{g c:Nat}{l:List UInt8}(h:w.ownsRow B 5 1 (.slice (some ⟨g,0,none⟩) l.length c) l.length (Lib.strCells (tx l))):ia w g l:=λj hj=>by
 have:=World.ownsRow.cells h (g:=g) rfl j (.int .u8 (cI l[j])) (by
  unfold Lib.strCells tx cI;simp[hj])
 rw[gV,Nat.zero_add]at this;exact this
end Go.Proofs.YtlamjfhhefcohaaGreatDoor
