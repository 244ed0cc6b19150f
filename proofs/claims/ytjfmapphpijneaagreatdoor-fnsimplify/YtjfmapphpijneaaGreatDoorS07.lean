import Derived.Test.YtjfmapphpijneaaGreatDoorRows
import Derived.Test.YtjfmapphpijneaaGreatDoorS01
import Derived.WalkSpells
import Derived.ProofKit
import Derived.BigQuiet
import Derived.WalkSmall
namespace Go.Proofs.YtjfmapphpijneaaGreatDoor
open Go.World
open Go.Proofs.Tryz Go.RowKit
set_option linter.all false
set_option maxRecDepth 100000
set_option maxHeartbeats 0
variable[Inhabited Pick]
section
variable{S:Ft}{w W W':AT}{g len cap B:Nat}{a:Option Addr}
def aj.drewN{a:AT}(h:aj S a w)(n:Nat):aj S a (w.drewN n):=h.trans ⟨rfl,rfl,rfl,n_,λ_ _ _=>rfl⟩
structure ew (g:Nat) (a:Option Addr) (len cap:Nat) (W:AT):Prop where
 lt:g<W.heap.size
 s0:W.cell? ⟨g,0,none⟩=some (.slice a len cap)
 s1:∃i:Nat,i<=len/\W.cell? ⟨g,1,none⟩=some (V i)
 s2:∃h:Int,W.cell? ⟨g,2,none⟩=some (V h)
 fz:∀j,W.frozen? ⟨g,j,none⟩=false
 by8:0<len->∃b off,a=some ⟨b,off,none⟩/\b<W.heap.size/\b≠g/\∀j,j<len->∃z:Int,0<=z/\z<=255/\W.cell? ⟨b,off+j,none⟩=some (.int .u8 z)
def Cf(x:Int):0<=bits .and .i64 x 255/\bits .and .i64 x 255<=255:=by
 show 0<=IntKind.i64.wrap ((BitVec.ofInt 64 x &&& BitVec.ofInt 64 255).toNat:Int)/\IntKind.i64.wrap ((BitVec.ofInt 64 x &&& BitVec.ofInt 64 255).toNat:Int)<=255;have h:(BitVec.ofInt 64 x &&& BitVec.ofInt 64 255).toNat<=255:=by rw[BitVec.toNat_and];exact t_ Nat.and_le_right d_
 rw[IntKind.wrap_i64];omega
def Cg(g:Nat)(a:Option Addr)(len cap:Nat)(i:Nat)(h:Int)(W:AT)(Z:len<=1048576)(hi:i<=len)(Ja:¬i<len)(c0:DO W g 0 (.slice a len cap))(c1:DO W g 1 (V i))(U:DO W g 2 (V h))(I:∀j,D4 W g j):
  Calls prog 34 #[pV g] W λe w'=>∃x h',e=rW (V x)/\(0<=x/\x<=255)/\∃n,w'=(W.setCell ⟨g,2,none⟩ (V h')).drewN n:=by
 have J:=I 2;go_in;go_wp2
 go_quiet (fail)
 go_wp2
 go_quiet (fail)
 go_wp2;go_ret;exact⟨_,_,rfl,Cf _,_,by first|rfl|rw[drewN_drewN]⟩
def zX(g b off:Nat)(len cap:Nat)(i:Nat)(h z:Int)(W:AT)(hl:len<=1048576)(Je:i<len)(Ja:¬b=g)(hz:0<=z/\z<=255)(cz:DO W b (off+i) (.int .u8 z))
  (c0:DO W g 0 (.slice (some ⟨b,off,none⟩) len cap)) (c1:DO W g 1 (V i)) (Z:DO W g 2 (V h)) (I:∀j,D4 W g j):
  Calls prog 34 #[pV g] W λe w'=>∃x h',e=rW (V x)/\(0<=x/\x<=255)/\∃n,w'=((W.setCell ⟨g,2,none⟩ (V h')).drewN n).setCell ⟨g,1,none⟩ (V (i+1)):=by
 have J:=I 2;have U:=I 1;have Jc:¬g=b:=λe=>Ja e.symm;have Jb:(0:Int)<=(i:Int):=o_
 have Jd:(i:Int)<(len:Int):=o_;go_in;go_wp2
 go_quiet (fail)
 go_wp2
 go_quiet (fail)
 go_wp2
 go_quiet (fail)
 go_wp2;go_ret;exact⟨_,_,rfl,Cf _,_,rfl⟩
def ew.set2(hc:ew g a len cap W)(I:Int):ew g a len cap (W.setCell ⟨g,2,none⟩ (V I)):=by obtain⟨lt,c0,⟨i,hi,c1⟩,⟨h,c2⟩,U,b8⟩:=hc;refine⟨IN lt,by go_simp,⟨i,hi,by go_simp⟩,⟨I,by go_simp⟩,λj=>by simpa using U j,λhl=>?_⟩;have⟨b,Jb,ha,J,Ja,hz⟩:=b8 hl;exact⟨b,Jb,ha,IN J,Ja,λj hj=>by have⟨z,z0,z1,Z⟩:=hz j hj;exact⟨z,z0,z1,(c_ (Below.heap_setCell W _ _ b Ja)).trans Z⟩⟩
def ew.set1(hc:ew g a len cap W)(I:Nat)(Jc:I<=len):ew g a len cap (W.setCell ⟨g,1,none⟩ (V I)):=by obtain⟨lt,c0,⟨i,hi,c1⟩,⟨h,c2⟩,U,b8⟩:=hc;refine⟨IN lt,by go_simp,⟨I,Jc,by go_simp⟩,⟨h,by go_simp⟩,λj=>by simpa using U j,λhl=>?_⟩;have⟨b,Jb,ha,J,Ja,hz⟩:=b8 hl;exact⟨b,Jb,ha,IN J,Ja,λj hj=>by have⟨z,z0,z1,Z⟩:=hz j hj;exact⟨z,z0,z1,(c_ (Below.heap_setCell W _ _ b Ja)).trans Z⟩⟩
def ew.drewN(hc:ew g a len cap W)(n:Nat):ew g a len cap (W.drewN n):=⟨hc.lt,hc.s0,hc.s1,hc.s2,hc.fz,hc.by8⟩
def ew.keep(I:ew g a len cap W)(U:aj S W W')(J:¬S g)(hb:∀b off,0<len->a=some ⟨b,off,none⟩->¬S b):ew g a len cap W':=by have Ja:=I.lt;have⟨i,hi,c1⟩:=I.s1;have⟨h,c2⟩:=I.s2;have e:∀q j,q<W.heap.size->¬S q->W'.cell? ⟨q,j,none⟩=W.cell? ⟨q,j,none⟩:=λq j hq hs=>c_ (U.block q hq hs);refine⟨l_ Ja U.size,(e g 0 Ja J).trans I.s0,⟨i,hi,(e g 1 Ja J).trans c1⟩,⟨h,(e g 2 Ja J).trans c2⟩,λj=>(frozen?_of_block (U.block g Ja J)).trans (I.fz j),λhl=>?_⟩;have⟨b,off,Z,Jb,Jc,hz⟩:=I.by8 hl;exact⟨b,off,Z,l_ Jb U.size,Jc,λj hj=>by have⟨z,z0,z1,cz⟩:=hz j hj;exact⟨z,z0,z1,(e b _ Jb (hb b off hl Z)).trans cz⟩⟩
def ew.below(hc:ew g a len cap W)(hb:Bl W W'):ew g a len cap W':=
 hc.keep (S:=λ_=>False) hb.tcs (λh=>h) (λ_ _ _ _ h=>h)
def ew.alloc(hc:ew g a len cap W)(o:Obj):ew g a len cap (W.alloc o):=hc.below (r_.alloc n_ o)
structure Dr (g:Nat) (a:Option Addr) (len cap:Nat) (S:Ft) (w w':AT):Prop where
 cur:ew g a len cap w'
 tcs:aj S w w'
structure Lo (g:Nat) (a:Option Addr) (len:Nat) (S:Ft) (B:Nat):Prop where
 gl:g<B
 sg:S g
 by8:∀b off,0<len->a=some ⟨b,off,none⟩->b<B/\(S b->False)
 s:∀k,S k->k<B
def Lo.mono{B':Nat}(h:Lo g a len S B)(hb:B<=B'):Lo g a len S B':=
 ⟨Ka h.gl,h.sg,λb off x y=>⟨by have:=(h.by8 b off x y).1;omega,(h.by8 b off x y).2⟩,λk hk=>Ka (h.s k hk)⟩
def ew.new{T:Ft}(hc:ew g a len cap W)(hL:Lo g a len S B)(ht:aj T W W')(hT:∀k,T k->B<=k):ew g a len cap W':=
 hc.keep ht (λh=>Ia (hT _ h) hL.gl) (λb off x y h=>by have:=hT _ h;have:=(hL.by8 b off x y).1;omega)
def kU(g:Nat)(a:Option Addr)(len cap:Nat)(S:Ft)(W:AT)(hl:len<=1048576)(Z:S g)(I:ew g a len cap W):
  Calls prog 34 #[pV g] W λe w'=>∃x,e=rW (V x)/\(0<=x/\x<=255)/\Dr g a len cap S W w':=by
 have⟨i,hi,c1⟩:=I.s1;have⟨h,c2⟩:=I.s2;by_cases hlt:i<len
 obtain⟨b,Ja,rfl,hb,Jb,hz⟩:=I.by8 o_;have⟨z,z0,z1,cz⟩:=hz i hlt;refine(zX g b Ja len cap i h z W hl hlt Jb ⟨z0,z1⟩ cz I.s0 c1 c2 I.fz).mono ?_;rintro e w' ⟨x,J,rfl,U,n,rfl⟩;exact⟨x,rfl,U,((I.set2 J).drewN n).set1 (i+1) o_,(((aj.refl S W).setCell Z _).drewN n).setCell Z _⟩;refine(Cg g a len cap i h W hl hi hlt I.s0 c1 c2 I.fz).mono ?_;rintro e w' ⟨x,J,rfl,U,n,rfl⟩;exact⟨x,rfl,U,(I.set2 J).drewN n,((aj.refl S W).setCell Z _).drewN n⟩
def aE(g:Nat)(a:Option Addr)(len cap:Nat)(S:Ft)(n:Int)(W:AT)(J:len<=1048576)(U:S g)(hc:ew g a len cap W)(hn:1<=n/\n<=100000):
  Calls prog 13 #[pV g,V n] W λe w'=>∃x,e=rW (V x)/\(0<=x/\x<n)/\Dr g a len cap S W w':=by
 have Z:=ah hc;have Jd:(n == 0)=false:=by simp;omega
 by_cases h:n<=256
 ·go_in;go_wp2_with fail;refine(kU g a len cap S _ J U Z).mono ?_;rintro e w1 ⟨x,rfl,hx,Ja⟩;have I:=ah Ja;go_wp2
  go_ret;exact⟨_,rfl,⟨Int.emod_nonneg _ o_,Int.emod_lt_of_pos _ o_⟩,I⟩
 go_in;go_wp2_with fail;refine(kU g a len cap S _ J U Z).mono ?_;rintro e w1 ⟨x,rfl,hx,Ja⟩;have I:=ah Ja;go_wp2_with fail;refine(kU g a len cap S _ J U I.o.cur).mono ?_;rintro e w2 ⟨y,rfl,hy,Jb⟩;have H2:Hid (Dr g a len cap S W w2):=⟨Jb.cur,I.o.tcs.trans Jb.tcs⟩;go_wp2_with fail;refine(kU g a len cap S _ J U H2.o.cur).mono ?_;rintro e w3 ⟨z,rfl,hz,Jc⟩;have H3:Hid (Dr g a len cap S W w3):=⟨Jc.cur,H2.o.tcs.trans Jc.tcs⟩;go_wp2;go_ret;exact⟨_,rfl,⟨Int.emod_nonneg _ o_,Int.emod_lt_of_pos _ o_⟩,H3⟩
def fd(g:Nat)(a:Option Addr)(len cap:Nat)(S:Ft)(n:Int)(W:AT)(U:len<=1048576)(Z:S g)(hc:ew g a len cap W)(hn:1<=n/\n<=100000):
  Calls prog 32 #[pV g,V n] W λe w'=>∃x,e=rW (.bool x)/\Dr g a len cap S W w':=by
 have J:=ah hc;go_in;go_wp2_with fail;refine(aE g a len cap S _ _ U Z J.o hn).mono ?_;rintro e w1 ⟨x,rfl,hx,Ja⟩;have I:=ah Ja;go_wp2;go_ret;exact⟨_,rfl,I⟩
def zY(g:Nat)(a:Option Addr)(len cap:Nat)(S:Ft)(W:AT)(J:len<=1048576)(U:S g)(hc:ew g a len cap W):
  Calls prog 110 #[pV g] W λe w'=>∃y,e=rW (V y)/\Dr g a len cap S W w':=by
 have HC:=ah hc;go_in;go_wp2_with fail;refine(aE g a len cap S _ _ J U HC.o o_).mono ?_;rintro e w1 ⟨x,rfl,hx,Jb⟩;have I:=ah Jb;go_wp2_with fail;refine(aE g a len cap S _ _ J U I.o.cur o_).mono ?_;rintro e w2 ⟨y,rfl,hy,Ja⟩;have Z:Hid (Dr g a len cap S W w2):=⟨Ja.cur,I.o.tcs.trans Ja.tcs⟩;go_wp2
 all_goals go_ret
 all_goals exact⟨_,rfl,Z⟩
def B8(w:AT)(a:Option Addr)(len:Nat):Prop:=
 0<len->∃b off,a=some ⟨b,off,none⟩/\b<w.heap.size/\∀j,j<len->∃z:Int,0<=z/\z<=255/\w.cell? ⟨b,off+j,none⟩=some (.int .u8 z)
def B8.below{w':AT}(h:B8 w a len)(hb:Bl w w'):B8 w' a len:=λhl=>by have⟨b,off,ha,hlt,hc⟩:=h hl;exact⟨b,off,ha,Ka hb.size,λj hj=>by have⟨z,z0,z1,cz⟩:=hc j hj;exact⟨z,z0,z1,(hb.cell (p:=⟨b,off+j,none⟩) hlt).trans cz⟩⟩
def Ch(b off len cap:Nat)(w:AT)(hl:len<=1048576)(J:∀j,j<len->∃z:Int,0<=z/\z<=255/\DO w b (off+j) (.int .u8 z)):
  Calls prog 11 #[.slice (some ⟨b,off,none⟩) len cap] w λe w'=>∃h:Int,e=rW (pV w.heap.size)/\w'=w.alloc (.cells #[.slice (some ⟨b,off,none⟩) len cap,V 0,V h] 74):=by
 have I:=ah J;go_in;go_wp2
 go_loop [3,4] (λhv i=>∃k:Nat,k<=len/\i=V k/\∃h:Int,hv=V h) (λ_ i=>len-(RowKit.intOf i).toNat)
 case atStart=>exact⟨0,y_,rfl,_,rfl⟩
 case round=>
  obtain⟨k,U,rfl,h,rfl⟩:=hrel;by_cases hlt:k<len
  ·have⟨z,z0,z1,Z⟩:=I.o k hlt;go_wp2
   go_round
   case rel=>exact⟨k+1,o_,by go_num,_,rfl⟩
   case measure=>exact IF
  go_wp2;go_ret;first|exact⟨_,rfl,rfl⟩|exact⟨rfl,_,rfl⟩
def Ci(a:Option Addr)(cap:Nat)(w:AT):
  Calls prog 11 #[.slice a 0 cap] w λe w'=>∃h:Int,e=rW (pV w.heap.size)/\w'=w.alloc (.cells #[.slice a 0 cap,V 0,V h] 74):=by
 go_in;go_wp2;refine wp_loop_rounds 1 ?_;rw[rounds_succ];go_wp2;go_ret;first|exact⟨_,rfl,rfl⟩|exact⟨rfl,_,rfl⟩
def yH(a:Option Addr)(len cap:Nat)(h:Int)(w:AT)(hb:B8 w a len):ew w.heap.size a len cap (w.alloc (.cells #[.slice a len cap,V 0,V h] 74)):=by refine⟨i_,i_,⟨0,y_,i_⟩,⟨h,i_⟩,λj=>by simp,λhl=>?_⟩;have⟨b,Jb,I,Ja,Z⟩:=hb hl;exact⟨b,Jb,I,by simp;omega,o_,λj hj=>by have⟨z,z0,U,J⟩:=Z j hj;exact⟨z,z0,U,(cell?_alloc_past _ b _ Ja).trans J⟩⟩
def EL(a:Option Addr)(len cap:Nat)(w:AT)(U:len<=1048576)(I:B8 w a len):
  Calls prog 11 #[.slice a len cap] w λe w'=>e=rW (pV w.heap.size)/\ew w.heap.size a len cap w'/\Bl w w'/\w'.heap.size=w.heap.size+1/\Lo w.heap.size a len (λk=>k=w.heap.size) w'.heap.size:=by
 have Ja:Lo w.heap.size a len (λk=>k=w.heap.size) (w.heap.size+1):=⟨o_,rfl,λb Jb h0 ha=>by have⟨b',Jc,Jd,Jf,_⟩:=I h0;rw[Jd]at ha;simp at ha;exact⟨o_,λe=>by omega⟩,λk hk=>by omega⟩;by_cases h0:len=0;subst h0;refine(Ci a cap w).mono ?_;rintro e w' ⟨h,rfl,rfl⟩;exact⟨rfl,yH a 0 cap h w I,r_.alloc n_ _,i_,IN Ja⟩;obtain⟨b,Jb,rfl,Je,J⟩:=I o_;refine(Ch b Jb len cap w U J).mono ?_;rintro e w' ⟨h,rfl,rfl⟩;exact⟨rfl,yH _ len cap h w I,r_.alloc n_ _,i_,IN Ja⟩
end
def oO(a:Option Addr)(len cap:Nat)(i:Int)(hi:0<=i/\i<=5)(w:AT)(hl:len<=1048576)(J:B8 w a len):
  Calls prog 8 #[.slice a len cap,V i] w λe w'=>∃x,e=rW (V x)/\0<=x/\x<=255/\w'=w:=by
 obtain⟨k,rfl⟩:∃k:Nat,i=(k:Int):=⟨i.toNat,o_⟩;by_cases h:k<len
 ·obtain⟨b,Jc,rfl,Jb,I⟩:=J o_;have⟨z,z0,z1,Z⟩:=I k h;have Ja:(k:Int)<(len:Int):=o_
  go_in;go_wp2;go_ret;exact⟨_,rfl,o_,o_,rfl⟩
 have Ja:¬(k:Int)<(len:Int):=o_;have U:(IntKind.i64.wrap (IntKind.i64.wrap ((k:Int)*43)+19)).tmod 256=((k:Int)*43+19)%256:=by have:k=0\/k=1\/k=2\/k=3\/k=4\/k=5:=(by omega);rcases this with rfl|rfl|rfl|rfl|rfl|rfl <;> decide
 go_in;go_wp2;go_ret;refine⟨_,rfl,?_,?_,rfl⟩ <;> omega
end Go.Proofs.YtjfmapphpijneaaGreatDoor
