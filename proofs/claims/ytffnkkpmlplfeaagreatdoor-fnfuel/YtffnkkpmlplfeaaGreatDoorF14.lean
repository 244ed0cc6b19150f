import Derived.Test.YtffnkkpmlplfeaaGreatDoorRows
import Derived.Test.YtffnkkpmlplfeaaGreatDoorF00
import Derived.WalkSpells
import Derived.ProofKit
import Derived.BigQuiet
import Derived.WalkSmall
namespace Go.Proofs.YtffnkkpmlplfeaaGreatDoor
open Go.World
open Go.Proofs.Tryz Go.RowKit
set_option linter.all false
set_option maxRecDepth 100000
set_option maxHeartbeats 0
variable[Inhabited Pick]
variable{S:D6}{w W W':AT}{g len cap B:Nat}{a:Option Addr}
def ak.drewN{a:AT}(h:ak S a w)(n:Nat):ak S a (w.drewN n):=h.trans ⟨rfl,rfl,rfl,n_,λ_ _ _=>rfl⟩
structure dS (g:Nat) (a:Option Addr) (len cap:Nat) (W:AT):Prop where
 lt:g<W.heap.size
 s0:W.cell? ⟨g,0,none⟩=some (.slice a len cap)
 s1:∃i:Nat,i<=len/\W.cell? ⟨g,1,none⟩=some (V i)
 s2:∃h:Int,W.cell? ⟨g,2,none⟩=some (V h)
 fz:∀j,W.frozen? ⟨g,j,none⟩=false
 by8:0<len->∃b off,a=some ⟨b,off,none⟩/\b<W.heap.size/\b≠g/\∀j,j<len->∃z:Int,0<=z/\z<=255/\W.cell? ⟨b,off+j,none⟩=some (.int .u8 z)
def yv(x:Int):0<=bits .and .i64 x 255/\bits .and .i64 x 255<=255:=by
 show 0<=IntKind.i64.wrap ((BitVec.ofInt 64 x &&& BitVec.ofInt 64 255).toNat:Int)/\IntKind.i64.wrap ((BitVec.ofInt 64 x &&& BitVec.ofInt 64 255).toNat:Int)<=255;have h:(BitVec.ofInt 64 x &&& BitVec.ofInt 64 255).toNat<=255:=by
  rw[BitVec.toNat_and];exact t_ Nat.and_le_right d_
 rw[IntKind.wrap_i64];omega
def yw(g:Nat)(a:Option Addr)(len cap:Nat)(i:Nat)(h:Int)(W:AT)(Y:len<=1048576)(hi:i<=len)(Z:¬i<len)(c0:DO W g 0 (.slice a len cap))(c1:DO W g 1 (V i))(U:DO W g 2 (V h))(I:∀j,D4 W g j):
  Calls prog 80 #[pV g] W λe w'=>∃x h',e=rW (V x)/\(0<=x/\x<=255)/\∃n,w'=(W.setCell ⟨g,2,none⟩ (V h')).drewN n:=by
 have J:=I 2;go_in;go_wp2
 go_quiet (fail)
 go_wp2
 go_quiet (fail)
 go_wp2;go_ret;exact⟨_,_,rfl,yv _,_,by first|rfl|rw[drewN_drewN]⟩
def vo(g b off:Nat)(len cap:Nat)(i:Nat)(h z:Int)(W:AT)(hl:len<=1048576)(Je:i<len)(J:¬b=g)(hz:0<=z/\z<=255)(cz:DO W b (off+i) (.int .u8 z))
  (c0:DO W g 0 (.slice (some ⟨b,off,none⟩) len cap)) (c1:DO W g 1 (V i)) (c2:DO W g 2 (V h)) (I:∀j,D4 W g j):
  Calls prog 80 #[pV g] W λe w'=>∃x h',e=rW (V x)/\(0<=x/\x<=255)/\∃n,w'=((W.setCell ⟨g,2,none⟩ (V h')).drewN n).setCell ⟨g,1,none⟩ (V (i+1)):=by
 have U:=I 2;have Y:=I 1;have Z:¬g=b:=λe=>J e.symm;have Jb:(0:Int)<=(i:Int):=o_
 have Jd:(i:Int)<(len:Int):=o_;go_in;go_wp2
 go_quiet (fail)
 go_wp2
 go_quiet (fail)
 go_wp2
 go_quiet (fail)
 go_wp2;go_ret;exact⟨_,_,rfl,yv _,_,rfl⟩
def dS.set2(hc:dS g a len cap W)(J:Int):dS g a len cap (W.setCell ⟨g,2,none⟩ (V J)):=by
 obtain⟨lt,c0,⟨i,hi,c1⟩,⟨h,c2⟩,Y,b8⟩:=hc;refine⟨Fc lt,by go_simp,⟨i,hi,by go_simp⟩,⟨J,by go_simp⟩,λj=>by simpa using Y j,λhl=>?_⟩;obtain⟨b,Jb,ha,U,I,hz⟩:=b8 hl;exact⟨b,Jb,ha,Fc U,I,λj hj=>by obtain⟨z,z0,z1,Z⟩:=hz j hj;exact⟨z,z0,z1,(c_ (Below.heap_setCell W _ _ b I)).trans Z⟩⟩
def dS.set1(hc:dS g a len cap W)(I:Nat)(Jc:I<=len):dS g a len cap (W.setCell ⟨g,1,none⟩ (V I)):=by
 obtain⟨lt,c0,⟨i,hi,c1⟩,⟨h,c2⟩,Y,b8⟩:=hc;refine⟨Fc lt,by go_simp,⟨I,Jc,by go_simp⟩,⟨h,by go_simp⟩,λj=>by simpa using Y j,λhl=>?_⟩;obtain⟨b,Jb,ha,U,J,hz⟩:=b8 hl;exact⟨b,Jb,ha,Fc U,J,λj hj=>by obtain⟨z,z0,z1,Z⟩:=hz j hj;exact⟨z,z0,z1,(c_ (Below.heap_setCell W _ _ b J)).trans Z⟩⟩
def dS.drewN(hc:dS g a len cap W)(n:Nat):dS g a len cap (W.drewN n):=⟨hc.lt,hc.s0,hc.s1,hc.s2,hc.fz,hc.by8⟩
def dS.keep(I:dS g a len cap W)(Y:ak S W W')(U:¬S g)(hb:∀b off,0<len->a=some ⟨b,off,none⟩->¬S b):dS g a len cap W':=by
 have J:=I.lt;obtain⟨i,hi,c1⟩:=I.s1;obtain⟨h,c2⟩:=I.s2;have e:∀q j,q<W.heap.size->¬S q->W'.cell? ⟨q,j,none⟩=W.cell? ⟨q,j,none⟩:=λq j hq hs=>c_ (Y.block q hq hs);refine⟨l_ J Y.size,(e g 0 J U).trans I.s0,⟨i,hi,(e g 1 J U).trans c1⟩,⟨h,(e g 2 J U).trans c2⟩,λj=>(frozen?_of_block (Y.block g J U)).trans (I.fz j),λhl=>?_⟩;obtain⟨b,off,Z,Jb,Jc,hz⟩:=I.by8 hl;exact⟨b,off,Z,l_ Jb Y.size,Jc,λj hj=>by obtain⟨z,z0,z1,cz⟩:=hz j hj;exact⟨z,z0,z1,(e b _ Jb (hb b off hl Z)).trans cz⟩⟩
def dS.below(hc:dS g a len cap W)(hb:Bl W W'):dS g a len cap W':=
 hc.keep (S:=λ_=>False) hb.tcs (λh=>h) (λ_ _ _ _ h=>h)
def dS.alloc(hc:dS g a len cap W)(o:Obj):dS g a len cap (W.alloc o):=hc.below (r_.alloc n_ o)
structure Dr (g:Nat) (a:Option Addr) (len cap:Nat) (S:D6) (w w':AT):Prop where
 cur:dS g a len cap w'
 tcs:ak S w w'
structure Lo (g:Nat) (a:Option Addr) (len:Nat) (S:D6) (B:Nat):Prop where
 gl:g<B
 sg:S g
 by8:∀b off,0<len->a=some ⟨b,off,none⟩->b<B/\(S b->False)
 s:∀k,S k->k<B
def Lo.mono{B':Nat}(h:Lo g a len S B)(hb:B<=B'):Lo g a len S B':=
 ⟨Ft h.gl,h.sg,λb off x y=>⟨by have:=(h.by8 b off x y).1;omega,(h.by8 b off x y).2⟩,λk hk=>Ft (h.s k hk)⟩
def dS.new{T:D6}(hc:dS g a len cap W)(hL:Lo g a len S B)(ht:ak T W W')(hT:∀k,T k->B<=k):dS g a len cap W':=
 hc.keep ht (λh=>Fw (hT _ h) hL.gl) (λb off x y h=>by have:=hT _ h;have:=(hL.by8 b off x y).1;omega)
def jC(g:Nat)(a:Option Addr)(len cap:Nat)(S:D6)(W:AT)(hl:len<=1048576)(Y:S g)(I:dS g a len cap W):
  Calls prog 80 #[pV g] W λe w'=>∃x,e=rW (V x)/\(0<=x/\x<=255)/\Dr g a len cap S W w':=by
 obtain⟨i,hi,Z⟩:=I.s1;obtain⟨h,c2⟩:=I.s2;by_cases hlt:i<len
 ·obtain⟨b,Ja,rfl,hb,Jb,hz⟩:=I.by8 o_;obtain⟨z,z0,z1,cz⟩:=hz i hlt;refine(vo g b Ja len cap i h z W hl hlt Jb ⟨z0,z1⟩ cz I.s0 Z c2 I.fz).mono ?_;rintro e w' ⟨x,J,rfl,U,n,rfl⟩;exact⟨x,rfl,U,((I.set2 J).drewN n).set1 (i+1) o_,(((ak.refl S W).setCell Y _).drewN n).setCell Y _⟩
 ·refine(yw g a len cap i h W hl hi hlt I.s0 Z c2 I.fz).mono ?_;rintro e w' ⟨x,J,rfl,U,n,rfl⟩;exact⟨x,rfl,U,(I.set2 J).drewN n,((ak.refl S W).setCell Y _).drewN n⟩
def aE(g:Nat)(a:Option Addr)(len cap:Nat)(S:D6)(n:Int)(W:AT)(J:len<=1048576)(U:S g)(hc:dS g a len cap W)(hn:1<=n/\n<=100000):
  Calls prog 49 #[pV g,V n] W λe w'=>∃x,e=rW (V x)/\(0<=x/\x<n)/\Dr g a len cap S W w':=by
 have HC:=ah hc;have Jd:(n == 0)=false:=by simp;omega
 by_cases h:n<=256
 ·go_in;go_wp2_with fail;refine(jC g a len cap S _ J U HC).mono ?_;rintro e w1 ⟨x,rfl,hx,Y⟩;have I:=ah Y;go_wp2
  go_ret;exact⟨_,rfl,⟨Int.emod_nonneg _ o_,Int.emod_lt_of_pos _ o_⟩,I⟩
 ·go_in;go_wp2_with fail;refine(jC g a len cap S _ J U HC).mono ?_;rintro e w1 ⟨x,rfl,hx,Y⟩;have I:=ah Y;go_wp2_with fail;refine(jC g a len cap S _ J U I.o.cur).mono ?_;rintro e w2 ⟨y,rfl,hy,Jb⟩;have H2:Hid (Dr g a len cap S W w2):=⟨Jb.cur,I.o.tcs.trans Jb.tcs⟩;go_wp2_with fail;refine(jC g a len cap S _ J U H2.o.cur).mono ?_;rintro e w3 ⟨z,rfl,hz,Z⟩;have H3:Hid (Dr g a len cap S W w3):=⟨Z.cur,H2.o.tcs.trans Z.tcs⟩;go_wp2
  go_ret;exact⟨_,rfl,⟨Int.emod_nonneg _ o_,Int.emod_lt_of_pos _ o_⟩,H3⟩
def dU(g:Nat)(a:Option Addr)(len cap:Nat)(S:D6)(n:Int)(W:AT)(U:len<=1048576)(Y:S g)(Z:dS g a len cap W)(hn:1<=n/\n<=100000):
  Calls prog 77 #[pV g,V n] W λe w'=>∃x,e=rW (.bool x)/\Dr g a len cap S W w':=by
 have J:=ah Z;go_in;go_wp2_with fail;refine(aE g a len cap S _ _ U Y J.o hn).mono ?_;rintro e w1 ⟨x,rfl,hx,I⟩;have h:=ah I;go_wp2;go_ret;exact⟨_,rfl,h⟩
def nB(g:Nat)(a:Option Addr)(len cap:Nat)(S:D6)(W:AT)(J:len<=1048576)(U:S g)(hc:dS g a len cap W):
  Calls prog 79 #[pV g] W λe w'=>∃y,e=rW (V y)/\Dr g a len cap S W w':=by
 have HC:=ah hc;go_in;go_wp2_with fail;refine(aE g a len cap S _ _ J U HC.o o_).mono ?_;rintro e w1 ⟨x,rfl,hx,Z⟩;have h:=ah Z;go_wp2_with fail;refine(aE g a len cap S _ _ J U h.o.cur o_).mono ?_;rintro e w2 ⟨y,rfl,hy,I⟩;have Y:Hid (Dr g a len cap S W w2):=⟨I.cur,h.o.tcs.trans I.tcs⟩;go_wp2
 all_goals go_ret
 all_goals exact⟨_,rfl,Y⟩
def B8(w:AT)(a:Option Addr)(len:Nat):Prop:=
 0<len->∃b off,a=some ⟨b,off,none⟩/\b<w.heap.size/\∀j,j<len->∃z:Int,0<=z/\z<=255/\w.cell? ⟨b,off+j,none⟩=some (.int .u8 z)
def B8.below{w':AT}(h:B8 w a len)(hb:Bl w w'):B8 w' a len:=λhl=>by
 obtain⟨b,off,ha,hlt,hc⟩:=h hl;exact⟨b,off,ha,Ft hb.size,λj hj=>by obtain⟨z,z0,z1,cz⟩:=hc j hj;exact⟨z,z0,z1,(hb.cell (p:=⟨b,off+j,none⟩) hlt).trans cz⟩⟩
def yx(b off len cap:Nat)(w:AT)(hl:len<=1048576)(J:∀j,j<len->∃z:Int,0<=z/\z<=255/\DO w b (off+j) (.int .u8 z)):
  Calls prog 46 #[.slice (some ⟨b,off,none⟩) len cap] w λe w'=>∃h:Int,e=rW (pV w.heap.size)/\w'=w.alloc (.cells #[.slice (some ⟨b,off,none⟩) len cap,V 0,V h] 127):=by
 have I:=ah J;go_in;go_wp2
 go_loop [3,4] (λhv i=>∃k:Nat,k<=len/\i=V k/\∃h:Int,hv=V h) (λ_ i=>len-(RowKit.intOf i).toNat)
 case atStart=>exact⟨0,y_,rfl,_,rfl⟩
 case round=>
  obtain⟨k,U,rfl,h,rfl⟩:=hrel;by_cases hlt:k<len
  ·obtain⟨z,z0,Z,Y⟩:=I.o k hlt;go_wp2
   go_round
   case rel=>exact⟨k+1,o_,by go_num,_,rfl⟩
   case measure=>exact FW
  ·go_wp2
   go_ret;first|exact⟨_,rfl,rfl⟩|exact⟨rfl,_,rfl⟩
def yz(a:Option Addr)(cap:Nat)(w:AT):
  Calls prog 46 #[.slice a 0 cap] w λe w'=>∃h:Int,e=rW (pV w.heap.size)/\w'=w.alloc (.cells #[.slice a 0 cap,V 0,V h] 127):=by
 go_in;go_wp2;refine wp_loop_rounds 1 ?_;rw[rounds_succ];go_wp2;go_ret;first|exact⟨_,rfl,rfl⟩|exact⟨rfl,_,rfl⟩
def ub(a:Option Addr)(len cap:Nat)(h:Int)(w:AT)(hb:B8 w a len):dS w.heap.size a len cap (w.alloc (.cells #[.slice a len cap,V 0,V h] 127)):=by
 refine⟨i_,i_,⟨0,y_,i_⟩,⟨h,i_⟩,λj=>by simp,λhl=>?_⟩;obtain⟨b,Z,I,U,hc⟩:=hb hl;exact⟨b,Z,I,by simp;omega,o_,λj hj=>by obtain⟨z,z0,Y,J⟩:=hc j hj;exact⟨z,z0,Y,(cell?_alloc_past _ b _ U).trans J⟩⟩
def Bb(a:Option Addr)(len cap:Nat)(w:AT)(hl:len<=1048576)(I:B8 w a len):
  Calls prog 46 #[.slice a len cap] w λe w'=>e=rW (pV w.heap.size)/\dS w.heap.size a len cap w'/\Bl w w'/\w'.heap.size=w.heap.size+1/\Lo w.heap.size a len (λk=>k=w.heap.size) w'.heap.size:=by
 have J:Lo w.heap.size a len (λk=>k=w.heap.size) (w.heap.size+1):=⟨o_,rfl,λb U h0 ha=>by obtain⟨b',Jc,Y,Jf,_⟩:=I h0;rw[Y]at ha;simp at ha;exact⟨o_,λe=>by omega⟩,λk hk=>by omega⟩;by_cases h0:len=0
 ·subst h0;refine(yz a cap w).mono ?_;rintro e w' ⟨h,rfl,rfl⟩;exact⟨rfl,ub a 0 cap h w I,r_.alloc n_ _,i_,Fc J⟩
 ·obtain⟨b,U,rfl,Je,Z⟩:=I o_;refine(yx b U len cap w hl Z).mono ?_;rintro e w' ⟨h,rfl,rfl⟩;exact⟨rfl,ub _ len cap h w I,r_.alloc n_ _,i_,Fc J⟩
end Go.Proofs.YtffnkkpmlplfeaaGreatDoor
