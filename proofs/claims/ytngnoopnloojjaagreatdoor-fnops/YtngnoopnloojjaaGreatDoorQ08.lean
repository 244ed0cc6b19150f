import Derived.Test.YtngnoopnloojjaaGreatDoorRows
import Derived.Test.YtngnoopnloojjaaGreatDoorQ01
import Derived.WalkSpells
import Derived.ProofKit
import Derived.BigQuiet
import Derived.WalkSmall
namespace Go.Proofs.YtngnoopnloojjaaGreatDoor
open Go.World List
open Go.Proofs.Tryz Go.RowKit
set_option linter.all false
set_option maxRecDepth 100000
set_option maxHeartbeats 0
variable[Inhabited Pick]
section
variable{S:DO}{w W W':AT}{g len cap B:Nat}{a:Option Addr}
def aA.drewN{a:AT}(h:aA S a w)(n:Nat):aA S a (w.drewN n):=h.trans ⟨rfl,rfl,rfl,n_,λ_ _ _=>rfl⟩
structure yA (g:Nat) (a:Option Addr) (len cap:Nat) (W:AT):Prop where
 lt:g<W.heap.size
 s0:W.cell? ⟨g,0,none⟩=some (.slice a len cap)
 s1:∃i:Nat,i<=len/\W.cell? ⟨g,1,none⟩=some (V i)
 s2:∃h:Int,W.cell? ⟨g,2,none⟩=some (V h)
 fz:∀j,W.frozen? ⟨g,j,none⟩=false
 by8:0<len->∃b off,a=some ⟨b,off,none⟩/\b<W.heap.size/\b≠g/\∀j,j<len->∃z:Int,0<=z/\z<=255/\W.cell? ⟨b,off+j,none⟩=some (.int .u8 z)
def Eh(x:Int):0<=bits .and .i64 x 255/\bits .and .i64 x 255<=255:=by
 show 0<=IntKind.i64.wrap ((BitVec.ofInt 64 x &&& BitVec.ofInt 64 255).toNat:Int)/\IntKind.i64.wrap ((BitVec.ofInt 64 x &&& BitVec.ofInt 64 255).toNat:Int)<=255;have h:(BitVec.ofInt 64 x &&& BitVec.ofInt 64 255).toNat<=255:=by rw[BitVec.toNat_and];exact t_ Nat.and_le_right d_
 rw[IntKind.wrap_i64];omega
def Ei(g:Nat)(a:Option Addr)(Ja cap:Nat)(i:Nat)(h:Int)(W:AT)(O:Ja<=1048576)(X:i<=Ja)(Jb:¬i<Ja)(U:Bo W g 0 (.slice a Ja cap))(Y:Bo W g 1 (V i))(J:Bo W g 2 (V h))(H:∀j,By W g j):
  Calls prog 23 #[pV g] W λe w'=>∃x h',e=rW (V x)/\(0<=x/\x<=255)/\∃n,w'=(W.setCell ⟨g,2,none⟩ (V h')).drewN n:=by
 have I:=H 2;go_in;go_wp2
 go_quiet (fail)
 go_wp2
 go_quiet (fail)
 go_wp2;go_ret;exact⟨_,_,rfl,Eh _,_,by first|rfl|rw[drewN_drewN]⟩
def BK(g b off:Nat)(Ja cap:Nat)(i:Nat)(h z:Int)(W:AT)(U:Ja<=1048576)(Jf:i<Ja)(Jb:¬b=g)(hz:0<=z/\z<=255)(X:Bo W b (off+i) (.int .u8 z))
  (Y:Bo W g 0 (.slice (some ⟨b,off,none⟩) Ja cap)) (Z:Bo W g 1 (V i)) (O:Bo W g 2 (V h)) (H:∀j,By W g j):
  Calls prog 23 #[pV g] W λe w'=>∃x h',e=rW (V x)/\(0<=x/\x<=255)/\∃n,w'=((W.setCell ⟨g,2,none⟩ (V h')).drewN n).setCell ⟨g,1,none⟩ (V (i+1)):=by
 have I:=H 2;have J:=H 1;have Jd:¬g=b:=λe=>Jb e.symm;have Jc:(0:Int)<=(i:Int):=o_
 have Je:(i:Int)<(Ja:Int):=o_;go_in;go_wp2
 go_quiet (fail)
 go_wp2
 go_quiet (fail)
 go_wp2
 go_quiet (fail)
 go_wp2;go_ret;exact⟨_,_,rfl,Eh _,_,rfl⟩
def yA.set2(hc:yA g a len cap W)(H:Int):yA g a len cap (W.setCell ⟨g,2,none⟩ (V H)):=by obtain⟨X,c0,⟨i,Z,c1⟩,⟨h,c2⟩,J,b8⟩:=hc;refine⟨D4 X,by go_simp,⟨i,Z,by go_simp⟩,⟨H,by go_simp⟩,λj=>by simpa using J j,λhl=>?_⟩;have⟨b,Jb,ha,I,Ja,Y⟩:=b8 hl;exact⟨b,Jb,ha,D4 I,Ja,λj hj=>by have⟨z,z0,U,O⟩:=Y j hj;exact⟨z,z0,U,(c_ (Below.heap_setCell W _ _ b Ja)).trans O⟩⟩
def yA.set1(hc:yA g a len cap W)(H:Nat)(Jc:H<=len):yA g a len cap (W.setCell ⟨g,1,none⟩ (V H)):=by obtain⟨X,c0,⟨i,hi,c1⟩,⟨h,c2⟩,J,b8⟩:=hc;refine⟨D4 X,by go_simp,⟨H,Jc,by go_simp⟩,⟨h,by go_simp⟩,λj=>by simpa using J j,λhl=>?_⟩;have⟨b,Jb,ha,I,Ja,Y⟩:=b8 hl;exact⟨b,Jb,ha,D4 I,Ja,λj hj=>by have⟨z,Z,U,O⟩:=Y j hj;exact⟨z,Z,U,(c_ (Below.heap_setCell W _ _ b Ja)).trans O⟩⟩
def yA.drewN(hc:yA g a len cap W)(n:Nat):yA g a len cap (W.drewN n):=⟨hc.lt,hc.s0,hc.s1,hc.s2,hc.fz,hc.by8⟩
structure Dr (g:Nat) (a:Option Addr) (len cap:Nat) (S:DO) (w w':AT):Prop where
 cur:yA g a len cap w'
 tcs:aA S w w'
structure Lo (g:Nat) (a:Option Addr) (len:Nat) (S:DO) (B:Nat):Prop where
 gl:g<B
 sg:S g
 by8:∀b off,0<len->a=some ⟨b,off,none⟩->b<B/\(S b->False)
 s:∀k,S k->k<B
def lV(g:Nat)(a:Option Addr)(Ja cap:Nat)(S:DO)(W:AT)(Y:Ja<=1048576)(O:S g)(H:yA g a Ja cap W):
  Calls prog 23 #[pV g] W λe w'=>∃x,e=rW (V x)/\(0<=x/\x<=255)/\Dr g a Ja cap S W w':=by
 have⟨i,hi,U⟩:=H.s1;have⟨h,X⟩:=H.s2;by_cases hlt:i<Ja
 obtain⟨b,Jb,rfl,hb,Jc,hz⟩:=H.by8 o_;have⟨z,z0,z1,Z⟩:=hz i hlt;refine(BK g b Jb Ja cap i h z W Y hlt Jc ⟨z0,z1⟩ Z H.s0 U X H.fz).mono ?_;rintro e w' ⟨x,I,rfl,J,n,rfl⟩;exact⟨x,rfl,J,((H.set2 I).drewN n).set1 (i+1) o_,(((aA.refl S W).setCell O _).drewN n).setCell O _⟩;refine(Ei g a Ja cap i h W Y hi hlt H.s0 U X H.fz).mono ?_;rintro e w' ⟨x,I,rfl,J,n,rfl⟩;exact⟨x,rfl,J,(H.set2 I).drewN n,((aA.refl S W).setCell O _).drewN n⟩
def kG(g:Nat)(a:Option Addr)(Ja cap:Nat)(S:DO)(n:Int)(W:AT)(I:Ja<=1048576)(J:S g)(Z:yA g a Ja cap W)(hn:1<=n/\n<=100000):
  Calls prog 10 #[pV g,V n] W λe w'=>∃x,e=rW (V x)/\(0<=x/\x<n)/\Dr g a Ja cap S W w':=by
 have O:=ah Z;have Je:(n == 0)=false:=by simp;omega
 by_cases h:n<=256
 ·go_in;go_wp2_with fail;refine(lV g a Ja cap S _ I J O).mono ?_;rintro e w1 ⟨x,rfl,Y,Jb⟩;have H:=ah Jb;go_wp2
  go_ret;exact⟨_,rfl,⟨Int.emod_nonneg _ o_,Int.emod_lt_of_pos _ o_⟩,H⟩
 go_in;go_wp2_with fail;refine(lV g a Ja cap S _ I J O).mono ?_;rintro e w1 ⟨x,rfl,Y,Jb⟩;have H:=ah Jb;go_wp2_with fail;refine(lV g a Ja cap S _ I J H.o.cur).mono ?_;rintro e w2 ⟨y,rfl,hy,Jc⟩;have U:Hid (Dr g a Ja cap S W w2):=⟨Jc.cur,H.o.tcs.trans Jc.tcs⟩;go_wp2_with fail;refine(lV g a Ja cap S _ I J U.o.cur).mono ?_;rintro e w3 ⟨z,rfl,hz,Jd⟩;have X:Hid (Dr g a Ja cap S W w3):=⟨Jd.cur,U.o.tcs.trans Jd.tcs⟩;go_wp2;go_ret;exact⟨_,rfl,⟨Int.emod_nonneg _ o_,Int.emod_lt_of_pos _ o_⟩,X⟩
def sq(g:Nat)(a:Option Addr)(Ja cap:Nat)(S:DO)(W:AT)(I:Ja<=1048576)(J:S g)(X:yA g a Ja cap W):
  Calls prog 11 #[pV g] W λe w'=>∃y,e=rW (V y)/\Dr g a Ja cap S W w':=by
 have U:=ah X;go_in;go_wp2_with fail;refine(kG g a Ja cap S _ _ I J U.o o_).mono ?_;rintro e w1 ⟨x,rfl,Z,Jc⟩;have H:=ah Jc;go_wp2_with fail;refine(kG g a Ja cap S _ _ I J H.o.cur o_).mono ?_;rintro e w2 ⟨y,rfl,Y,Jb⟩;have O:Hid (Dr g a Ja cap S W w2):=⟨Jb.cur,H.o.tcs.trans Jb.tcs⟩;go_wp2
 all_goals go_ret
 all_goals exact⟨_,rfl,O⟩
def B8(w:AT)(a:Option Addr)(len:Nat):Prop:=
 0<len->∃b off,a=some ⟨b,off,none⟩/\b<w.heap.size/\∀j,j<len->∃z:Int,0<=z/\z<=255/\w.cell? ⟨b,off+j,none⟩=some (.int .u8 z)
def Ej(b off Ja cap:Nat)(w:AT)(Y:Ja<=1048576)(I:∀j,j<Ja->∃z:Int,0<=z/\z<=255/\Bo w b (off+j) (.int .u8 z)):
  Calls prog 9 #[.slice (some ⟨b,off,none⟩) Ja cap] w λe w'=>∃h:Int,e=rW (pV w.heap.size)/\w'=w.alloc (.cells #[.slice (some ⟨b,off,none⟩) Ja cap,V 0,V h] 59):=by
 have H:=ah I;go_in;go_wp2
 go_loop [3,4] (λhv i=>∃k:Nat,k<=Ja/\i=V k/\∃h:Int,hv=V h) (λ_ i=>Ja-(RowKit.intOf i).toNat)
 case atStart=>exact⟨0,y_,rfl,_,rfl⟩
 case round=>
  obtain⟨k,J,rfl,h,rfl⟩:=hrel;by_cases hlt:k<Ja
  ·have⟨z,X,U,O⟩:=H.o k hlt;go_wp2
   go_round
   case rel=>exact⟨k+1,o_,by go_num,_,rfl⟩
   case measure=>exact D1
  go_wp2;go_ret;first|exact⟨_,rfl,rfl⟩|exact⟨rfl,_,rfl⟩
def Ek(a:Option Addr)(cap:Nat)(w:AT):
  Calls prog 9 #[.slice a 0 cap] w λe w'=>∃h:Int,e=rW (pV w.heap.size)/\w'=w.alloc (.cells #[.slice a 0 cap,V 0,V h] 59):=by
 go_in;go_wp2;refine wp_loop_rounds 1 ?_;rw[rounds_succ];go_wp2;go_ret;first|exact⟨_,rfl,rfl⟩|exact⟨rfl,_,rfl⟩
def Ax(a:Option Addr)(Ja cap:Nat)(h:Int)(w:AT)(X:B8 w a Ja):yA w.heap.size a Ja cap (w.alloc (.cells #[.slice a Ja cap,V 0,V h] 59)):=by refine⟨i_,i_,⟨0,y_,i_⟩,⟨h,i_⟩,λj=>by simp,λhl=>?_⟩;have⟨b,Jc,H,Jb,O⟩:=X hl;exact⟨b,Jc,H,by simp;omega,o_,λj hj=>by have⟨z,U,J,I⟩:=O j hj;exact⟨z,U,J,(cell?_alloc_past _ b _ Jb).trans I⟩⟩
def Hq(a:Option Addr)(Ja cap:Nat)(w:AT)(J:Ja<=1048576)(H:B8 w a Ja):
  Calls prog 9 #[.slice a Ja cap] w λe w'=>e=rW (pV w.heap.size)/\yA w.heap.size a Ja cap w'/\Bl w w'/\w'.heap.size=w.heap.size+1/\Lo w.heap.size a Ja (λk=>k=w.heap.size) w'.heap.size:=by
 have Jb:Lo w.heap.size a Ja (λk=>k=w.heap.size) (w.heap.size+1):=⟨o_,rfl,λb Jc h0 ha=>by have⟨O,Jd,Je,Jg,_⟩:=H h0;rw[Je]at ha;simp at ha;exact⟨o_,λe=>by omega⟩,λk hk=>by omega⟩;by_cases h0:Ja=0;subst h0;refine(Ek a cap w).mono ?_;rintro e w' ⟨h,rfl,rfl⟩;exact⟨rfl,Ax a 0 cap h w H,r_.alloc n_ _,i_,D4 Jb⟩;obtain⟨b,Jc,rfl,Jf,I⟩:=H o_;refine(Ej b Jc Ja cap w J I).mono ?_;rintro e w' ⟨h,rfl,rfl⟩;exact⟨rfl,Ax _ Ja cap h w H,r_.alloc n_ _,i_,D4 Jb⟩
end
section
variable{S:DO}{w w':AT}{k:IntKind}{g off:Nat}{zs:List Int}{v:BY}
def blk:BY->List Nat
 | .slice (some a) (_+1) _=>[a.block]
 | _=>[]
@[simp] theorem blk_zero (a:Option Addr) (c:Nat):blk (.slice a 0 c)=[]:=by cases a <;> rfl
theorem fG(a:Addr)(n c:Nat)(h:0<n):blk (.slice (some a) n c)=[a.block]:=by
 cases n with
 | zero=>omega
 | succ n=>rfl
structure Row (k:IntKind) (w:AT) (g off:Nat) (zs:List Int):Prop where
 lt:g<w.heap.size
 cell:∀j,j<zs.length->w.cell? ⟨g,off+j,none⟩=some (.int k (zs.getD j 0))
 froz:∀j,w.frozen? ⟨g,j,none⟩=false
def Row.keep(h:Row k w g off zs)(hs:w.heap.size<=w'.heap.size)(hb:w'.heap[g]? =w.heap[g]?):Row k w' g off zs:=
 ⟨l_ h.lt hs,λj hj=>(c_ (w:=w) (a:=⟨g,off+j,none⟩) hb).trans (h.cell j hj),λj=>(frozen?_of_block (w:=w) (a:=⟨g,j,none⟩) hb).trans (h.froz j)⟩
def dy(k:IntKind)(w:AT)(v:BY)(zs:List Int):Prop:=
 ∃a cap,v=.slice a zs.length cap/\(0<zs.length->∃g off,a=some ⟨g,off,none⟩/\Row k w g off zs)
def dy.keep(h:dy k w v zs)(J:w.heap.size<=w'.heap.size)(O:∀g∈blk v,g<w.heap.size->w'.heap[g]? =w.heap[g]?):dy k w' v zs:=by obtain⟨a,Jb,rfl,I⟩:=h;refine⟨a,Jb,rfl,λhn=>?_⟩;obtain⟨g,Ja,rfl,H⟩:=I hn;exact⟨g,Ja,rfl,H.keep J (O g (by rw[fG _ _ _ hn];simp) H.lt)⟩
def dy.lt(h:dy k w v zs):∀g∈blk v,g<w.heap.size:=by
 obtain⟨a,Jb,rfl,J⟩:=h;intro g H;by_cases hn:0<zs.length;obtain⟨O,Ja,rfl,I⟩:=J hn;rw[fG _ _ _ hn]at H;simp only[K7]at H;subst H;exact I.lt;obtain h0:zs.length=0:=by omega
 rw[h0]at H;simp at H
def dy.below(h:dy k w v zs)(hb:Bl w w'):dy k w' v zs:=
 h.keep hb.size λg _ hl=>hb.block g hl
def dy.tcs(h:dy k w v zs)(ht:aA S w w')(hn:∀g∈blk v,¬S g):dy k w' v zs:=
 h.keep ht.size λg hg hl=>ht.block g hl (hn g hg)
def dy.nil(k:IntKind)(w:AT)(a:Option Addr)(c:Nat):dy k w (.slice a 0 c) []:=⟨a,c,rfl,λh=>absurd h (Nat.lt_irrefl _)⟩
def dy.len0(h:dy k w v zs):∃a cap,v=.slice a zs.length cap:=by obtain⟨a,cap,rfl,_⟩:=h;exact⟨a,cap,rfl⟩
def dy.cases(h:dy k w v zs):(zs=[]/\∃a cap,v=.slice a 0 cap)\/(0<zs.length/\∃g off cap,v=.slice (some ⟨g,off,none⟩) zs.length cap/\Row k w g off zs):=by obtain⟨a,cap,rfl,I⟩:=h;by_cases hn:0<zs.length;obtain⟨g,off,rfl,H⟩:=I hn;exact .inr ⟨hn,g,off,cap,rfl,H⟩;obtain rfl:zs=[]:=K1 o_;exact .inl ⟨rfl,a,cap,rfl⟩
def dy.of_row{cap:Nat}(h:Row k w g off zs):dy k w (.slice (some ⟨g,off,none⟩) zs.length cap) zs:=
 ⟨_,cap,rfl,λ_=>⟨g,off,rfl,h⟩⟩
def dy.of_own{Ja e:Nat}{n:Nat}(h:w.ownsRow Ja e 1 v n (zs.map (Value.int k))):dy k w v zs/\∀g∈blk v,Ja<=g:=by have I:=h.1;simp only[K8,Nat.mul_one]at I;subst I;rcases h.2 with⟨rfl,J⟩|⟨g,Jg,Jc,rfl,Jd,O,Jf,Je,Jh,Jb⟩;obtain rfl:zs=[]:=K1 J;exact⟨dy.nil _ _ _ _,i_⟩;refine⟨dy.of_row ⟨(Array.getElem?_eq_some_iff.mp O).1,λj hj=>?_,λj=>?_⟩,?_⟩;rw[Nat.zero_add,h.cellAt j o_];simp[hj];exact h.frozenAt j;intro b H;by_cases hn:0<zs.length;rw[fG _ _ _ hn]at H;simp only[K7]at H;omega;rw[show zs.length=0 by omega]at H;simp at H
end
section
variable{w w' a:AT}{g:Nat}{x0 x1 x2 x3 x4 x5 x6 x7:BY}{S:DO}
structure Bx (w:AT) (g:Nat) (x0 x1 x2 x3 x4 x5 x6 x7:BY):Prop where
 c0:w.cell? ⟨g,0,none⟩=some x0
 c1:w.cell? ⟨g,1,none⟩=some x1
 c2:w.cell? ⟨g,2,none⟩=some x2
 c3:w.cell? ⟨g,3,none⟩=some x3
 c4:w.cell? ⟨g,4,none⟩=some x4
 c5:w.cell? ⟨g,5,none⟩=some x5
 c6:w.cell? ⟨g,6,none⟩=some x6
 c7:w.cell? ⟨g,7,none⟩=some x7
 fz:∀j,w.frozen? ⟨g,j,none⟩=false
def Bx.keep(h:Bx w g x0 x1 x2 x3 x4 x5 x6 x7)(H:w'.heap[g]? =w.heap[g]?):Bx w' g x0 x1 x2 x3 x4 x5 x6 x7:=by have k:=λj=>c_ (w:=w) (w':=w') (a:=⟨g,j,none⟩) H;exact⟨(k 0).trans h.c0,(k 1).trans h.c1,(k 2).trans h.c2,(k 3).trans h.c3,(k 4).trans h.c4,(k 5).trans h.c5,(k 6).trans h.c6,(k 7).trans h.c7,λj=>(frozen?_of_block (w:=w) (a:=⟨g,j,none⟩) H).trans (h.fz j)⟩
def Bx.lt(h:Bx w g x0 x1 x2 x3 x4 x5 x6 x7):g<w.heap.size:=b_ h.c0
def Bx.below(h:Bx w g x0 x1 x2 x3 x4 x5 x6 x7)(hb:Bl w w'):Bx w' g x0 x1 x2 x3 x4 x5 x6 x7:=h.keep (hb.block g h.lt)
def Bx.of_heap{t:IN}(h:w.heap[g]? =some (.cells #[x0,x1,x2,x3,x4,x5,x6,x7] t)):Bx w g x0 x1 x2 x3 x4 x5 x6 x7:=by constructor;all_goals first|(simp[cell?,h];done)|(intro j;simp[frozen?,h])
def Bx.other(h:Bx w g x0 x1 x2 x3 x4 x5 x6 x7){p:Addr}(hp:g≠p.block)(u:BY):Bx (w.setCell p u) g x0 x1 x2 x3 x4 x5 x6 x7:=h.keep (Below.heap_setCell w p u g hp)
def Bx.drewN(h:Bx w g x0 x1 x2 x3 x4 x5 x6 x7)(n:Nat):Bx (w.drewN n) g x0 x1 x2 x3 x4 x5 x6 x7:=h.keep rfl
def bM{i j:Nat}(h:i≠j):(⟨g,i,none⟩:Addr)≠⟨g,j,none⟩:=λe=>by simp only[Addr.mk.injEq]at e;exact h e.2.1
def Bx.s1(h:Bx w g x0 x1 x2 x3 x4 x5 x6 x7)(v:BY):Bx (w.setCell ⟨g,1,none⟩ v) g x0 v x2 x3 x4 x5 x6 x7:=
 ⟨(s_ _ _ _ _ (bM d_)).trans h.c0,cell?_setCell_same _ _ _ h.c1,(s_ _ _ _ _ (bM d_)).trans h.c2,(s_ _ _ _ _ (bM d_)).trans h.c3,(s_ _ _ _ _ (bM d_)).trans h.c4,(s_ _ _ _ _ (bM d_)).trans h.c5,(s_ _ _ _ _ (bM d_)).trans h.c6,(s_ _ _ _ _ (bM d_)).trans h.c7,λj=>by simpa using h.fz j⟩
def Bx.s4(h:Bx w g x0 x1 x2 x3 x4 x5 x6 x7)(v:BY):Bx (w.setCell ⟨g,4,none⟩ v) g x0 x1 x2 x3 v x5 x6 x7:=
 ⟨(s_ _ _ _ _ (bM d_)).trans h.c0,(s_ _ _ _ _ (bM d_)).trans h.c1,(s_ _ _ _ _ (bM d_)).trans h.c2,(s_ _ _ _ _ (bM d_)).trans h.c3,cell?_setCell_same _ _ _ h.c4,(s_ _ _ _ _ (bM d_)).trans h.c5,(s_ _ _ _ _ (bM d_)).trans h.c6,(s_ _ _ _ _ (bM d_)).trans h.c7,λj=>by simpa using h.fz j⟩
def Bx.s6(h:Bx w g x0 x1 x2 x3 x4 x5 x6 x7)(v:BY):Bx (w.setCell ⟨g,6,none⟩ v) g x0 x1 x2 x3 x4 x5 v x7:=
 ⟨(s_ _ _ _ _ (bM d_)).trans h.c0,(s_ _ _ _ _ (bM d_)).trans h.c1,(s_ _ _ _ _ (bM d_)).trans h.c2,(s_ _ _ _ _ (bM d_)).trans h.c3,(s_ _ _ _ _ (bM d_)).trans h.c4,(s_ _ _ _ _ (bM d_)).trans h.c5,cell?_setCell_same _ _ _ h.c6,(s_ _ _ _ _ (bM d_)).trans h.c7,λj=>by simpa using h.fz j⟩
def Bx.s7(h:Bx w g x0 x1 x2 x3 x4 x5 x6 x7)(v:BY):Bx (w.setCell ⟨g,7,none⟩ v) g x0 x1 x2 x3 x4 x5 x6 v:=
 ⟨(s_ _ _ _ _ (bM d_)).trans h.c0,(s_ _ _ _ _ (bM d_)).trans h.c1,(s_ _ _ _ _ (bM d_)).trans h.c2,(s_ _ _ _ _ (bM d_)).trans h.c3,(s_ _ _ _ _ (bM d_)).trans h.c4,(s_ _ _ _ _ (bM d_)).trans h.c5,(s_ _ _ _ _ (bM d_)).trans h.c6,cell?_setCell_same _ _ _ h.c7,λj=>by simpa using h.fz j⟩
def aA.set8(h:aA S a w)(g:Nat)(hg:S g)(x0 x1 x2 x3 x4 x5 x6 x7:BY):
  aA S a ((((((((w.setCell ⟨g,0,none⟩ x0).setCell ⟨g,1,none⟩ x1).setCell ⟨g,2,none⟩ x2).setCell ⟨g,3,none⟩ x3).setCell ⟨g,4,none⟩ x4).setCell ⟨g,5,none⟩ x5).setCell ⟨g,6,none⟩ x6).setCell ⟨g,7,none⟩ x7):=
 (((((((h.setCell hg _).setCell hg _).setCell hg _).setCell hg _).setCell hg _).setCell hg _).setCell hg _).setCell hg _
end
def yB(a:Option Addr)(Ja cap:Nat)(w:AT)(I:Ja<=1048576)(hb:B8 w a Ja):
  Calls prog 4 #[.slice a Ja cap] w λe w'=>∃op x y:Int,e=rW (.tuple #[V op,V x,V y])/\Bl w w':=by
 have Jd:=ah hb;go_in;go_wp2_with fail;refine(Hq a Ja cap w I Jd).mono ?_;rintro e w1 ⟨rfl,Jc,Je,Jb,-⟩;have⟨g,J⟩:=q_ w.heap.size;rw[<-J]at Jc Jb⊢;have⟨HC,Z,HG,HS⟩:=h4 Jc Je J Jb;clear Jc Je J Jb Jd;go_wp2_with fail;refine(kG g a Ja cap (λk=>k=g) _ _ I rfl HC.o o_).mono ?_;rintro e w2 ⟨x,rfl,hx,H⟩;have U:=ah H;go_wp2_with fail;refine(sq g a Ja cap (λk=>k=g) _ I rfl U.o.cur).mono ?_;rintro e w3 ⟨y,rfl,H⟩;have X:Hid (Dr g a Ja cap (λk=>k=g) w1 w3):=⟨H.cur,U.o.tcs.trans H.tcs⟩;clear H U;go_wp2_with fail;refine(sq g a Ja cap (λk=>k=g) _ I rfl X.o.cur).mono ?_;rintro e w4 ⟨z,rfl,H⟩;have O:Hid (Dr g a Ja cap (λk=>k=g) w1 w4):=⟨H.cur,X.o.tcs.trans H.tcs⟩;go_wp2_with fail;refine(kG g a Ja cap (λk=>k=g) _ _ I rfl O.o.cur o_).mono ?_;rintro e w5 ⟨k,rfl,Y,H⟩;have H5:Hid (Dr g a Ja cap (λk=>k=g) w1 w5):=⟨H.cur,O.o.tcs.trans H.tcs⟩;clear H O;have HE:Hid (Bl w w5):=by exact H5.o.tcs.below Z.o (Ft Z.o.size) (λk Y=>by have e:k=g:=Y;have:=HG.o;omega)
 have Jf:k=0\/k=1\/k=2\/k=3\/(k≠0/\k≠1/\k≠2/\k≠3):=o_;rcases Jf with rfl|rfl|rfl|rfl|⟨h0,h1,h2,h3⟩;all_goals go_wp2
 all_goals refine bodyPost_ret (by simp[results,results4,go_sem];try rfl) rfl ?_
 all_goals exact⟨_,_,_,rfl,HE⟩
end Go.Proofs.YtngnoopnloojjaaGreatDoor
