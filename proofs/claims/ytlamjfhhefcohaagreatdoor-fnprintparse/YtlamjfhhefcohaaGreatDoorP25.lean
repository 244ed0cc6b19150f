import Derived.Test.YtlamjfhhefcohaaGreatDoorRows
import Derived.Test.YtlamjfhhefcohaaGreatDoorP01
import Derived.WalkSpells
import Derived.ProofKit
import Derived.BigQuiet
import Derived.WalkSmall
set_option linter.unusedSectionVars false
variable [Inhabited Go.Proofs.YtlamjfhhefcohaaGreatDoor.Pick]
namespace Go.Proofs.YtlamjfhhefcohaaGreatDoor
open Go.Proofs.Tryz
open Go.RowKit
set_option linter.all false
set_option maxRecDepth 100000
set_option maxHeartbeats 16000000
variable{S:Nat->Prop}{w W W':World}{g len cap B:Nat}{a:Option Addr}
theorem am.drewN{a:World}(h:am S a w)(n:Nat):am S a (w.drewN n):=h.trans ⟨rfl,rfl,rfl,n_,fun _ _ _=>rfl⟩
structure dP (g:Nat) (a:Option Addr) (len cap:Nat) (W:World):Prop where
 lt:g<W.heap.size
 s0:W.cell? ⟨g,0,none⟩=some (.slice a len cap)
 s1:∃i:Nat,i<=len/\W.cell? ⟨g,1,none⟩=some (.int .i64 i)
 s2:∃h:Int,W.cell? ⟨g,2,none⟩=some (.int .i64 h)
 fz:∀j,W.frozen? ⟨g,j,none⟩=false
 by8:0<len->∃b off,a=some ⟨b,off,none⟩/\b<W.heap.size/\b≠g/\∀j,j<len->∃z:Int,0<=z/\z<=255/\W.cell? ⟨b,off+j,none⟩=some (.int .u8 z)
theorem wO(x:Int):0<=bits .and .i64 x 255/\bits .and .i64 x 255<=255:=by
 show 0<=IntKind.i64.wrap ((BitVec.ofInt 64 x &&& BitVec.ofInt 64 255).toNat:Int)/\IntKind.i64.wrap ((BitVec.ofInt 64 x &&& BitVec.ofInt 64 255).toNat:Int)<=255;have h:(BitVec.ofInt 64 x &&& BitVec.ofInt 64 255).toNat<=255:=by
  rw[BitVec.toNat_and];exact t_ Nat.and_le_right d_
 rw[IntKind.wrap_i64];omega
theorem wP(g:Nat)(a:Option Addr)(len cap:Nat)(i:Nat)(h:Int)(W:World)(hl:len<=1048576)(hi:i<=len)(Ja:¬i<len)(c0:W.cell? ⟨g,0,none⟩=some (.slice a len cap))(c1:W.cell? ⟨g,1,none⟩=some (.int .i64 i))(c2:W.cell? ⟨g,2,none⟩=some (.int .i64 h))(fz:∀j,W.frozen? ⟨g,j,none⟩=false):
  Calls prog 66 #[.pointer (some ⟨g,0,none⟩)] W fun e w'=>∃x h',e=.returned (.int .i64 x)/\(0<=x/\x<=255)/\∃n,w'=(W.setCell ⟨g,2,none⟩ (.int .i64 h')).drewN n:=by
 have f2:=fz 2;go_enter func66,ntmps66;go_wp2
 go_quiet (fail)
 go_wp2
 go_quiet (fail)
 go_wp2;go_ret;exact⟨_,_,rfl,wO _,_,by first|rfl|rw[World.drewN_drewN]⟩
theorem uu(g b off:Nat)(len cap:Nat)(i:Nat)(h z:Int)(W:World)(hl:len<=1048576)(Je:i<len)(Ja:¬b=g)(hz:0<=z/\z<=255)(cz:W.cell? ⟨b,off+i,none⟩=some (.int .u8 z))
  (c0:W.cell? ⟨g,0,none⟩=some (.slice (some ⟨b,off,none⟩) len cap)) (c1:W.cell? ⟨g,1,none⟩=some (.int .i64 i)) (c2:W.cell? ⟨g,2,none⟩=some (.int .i64 h)) (fz:∀j,W.frozen? ⟨g,j,none⟩=false):
  Calls prog 66 #[.pointer (some ⟨g,0,none⟩)] W fun e w'=>∃x h',e=.returned (.int .i64 x)/\(0<=x/\x<=255)/\∃n,w'=((W.setCell ⟨g,2,none⟩ (.int .i64 h')).drewN n).setCell ⟨g,1,none⟩ (.int .i64 (i+1)):=by
 have f2:=fz 2;have f1:=fz 1;have Jd:¬g=b:=fun e=>Ja e.symm;have Jc:(0:Int)<=(i:Int):=o_
 have Jb:(i:Int)<(len:Int):=o_;go_enter func66,ntmps66;go_wp2
 go_quiet (fail)
 go_wp2
 go_quiet (fail)
 go_wp2
 go_quiet (fail)
 go_wp2;go_ret;exact⟨_,_,rfl,wO _,_,rfl⟩
theorem dP.set2(hc:dP g a len cap W)(h':Int):dP g a len cap (W.setCell ⟨g,2,none⟩ (.int .i64 h')):=by
 obtain⟨lt,c0,⟨i,hi,c1⟩,⟨h,c2⟩,fz,b8⟩:=hc;refine⟨by simpa using lt,by go_simp,⟨i,hi,by go_simp⟩,⟨h',by go_simp⟩,fun j=>by simpa using fz j,fun hl=>?_⟩;obtain⟨b,Jb,ha,hb,Ja,hz⟩:=b8 hl;exact⟨b,Jb,ha,by simpa using hb,Ja,fun j hj=>by obtain⟨z,z0,z1,cz⟩:=hz j hj;exact⟨z,z0,z1,(c_ (Below.heap_setCell W _ _ b Ja)).trans cz⟩⟩
theorem dP.set1(hc:dP g a len cap W)(i':Nat)(Jc:i'<=len):dP g a len cap (W.setCell ⟨g,1,none⟩ (.int .i64 i')):=by
 obtain⟨lt,c0,⟨i,hi,c1⟩,⟨h,c2⟩,fz,b8⟩:=hc;refine⟨by simpa using lt,by go_simp,⟨i',Jc,by go_simp⟩,⟨h,by go_simp⟩,fun j=>by simpa using fz j,fun hl=>?_⟩;obtain⟨b,Jb,ha,hb,Ja,hz⟩:=b8 hl;exact⟨b,Jb,ha,by simpa using hb,Ja,fun j hj=>by obtain⟨z,z0,z1,cz⟩:=hz j hj;exact⟨z,z0,z1,(c_ (Below.heap_setCell W _ _ b Ja)).trans cz⟩⟩
theorem dP.drewN(hc:dP g a len cap W)(n:Nat):dP g a len cap (W.drewN n):=⟨hc.lt,hc.s0,hc.s1,hc.s2,hc.fz,hc.by8⟩
theorem dP.keep(hc:dP g a len cap W)(ht:am S W W')(hg:¬S g)(hb:∀b off,0<len->a=some ⟨b,off,none⟩->¬S b):dP g a len cap W':=by
 have Ja:=hc.lt;obtain⟨i,hi,c1⟩:=hc.s1;obtain⟨h,c2⟩:=hc.s2;have e:∀q j,q<W.heap.size->¬S q->W'.cell? ⟨q,j,none⟩=W.cell? ⟨q,j,none⟩:=fun q j hq hs=>c_ (ht.block q hq hs);refine⟨l_ Ja ht.size,(e g 0 Ja hg).trans hc.s0,⟨i,hi,(e g 1 Ja hg).trans c1⟩,⟨h,(e g 2 Ja hg).trans c2⟩,fun j=>(World.frozen?_of_block (ht.block g Ja hg)).trans (hc.fz j),fun hl=>?_⟩;obtain⟨b,off,ha,Jb,Jc,hz⟩:=hc.by8 hl;exact⟨b,off,ha,l_ Jb ht.size,Jc,fun j hj=>by obtain⟨z,z0,z1,cz⟩:=hz j hj;exact⟨z,z0,z1,(e b _ Jb (hb b off hl ha)).trans cz⟩⟩
theorem dP.below(hc:dP g a len cap W)(hb:Below W.heap.size W W'):dP g a len cap W':=
 hc.keep (S:=fun _=>False) hb.tcs (fun h=>h) (fun _ _ _ _ h=>h)
theorem dP.alloc(hc:dP g a len cap W)(o:Obj):dP g a len cap (W.alloc o):=hc.below (r_.alloc n_ o)
structure Dr (g:Nat) (a:Option Addr) (len cap:Nat) (S:Nat->Prop) (w w':World):Prop where
 cur:dP g a len cap w'
 tcs:am S w w'
structure Lo (g:Nat) (a:Option Addr) (len:Nat) (S:Nat->Prop) (B:Nat):Prop where
 gl:g<B
 sg:S g
 by8:∀b off,0<len->a=some ⟨b,off,none⟩->b<B/\(S b->False)
 s:∀k,S k->k<B
theorem Lo.mono{B':Nat}(h:Lo g a len S B)(hb:B<=B'):Lo g a len S B':=
 ⟨by have:=h.gl;omega,h.sg,fun b off x y=>⟨by have:=(h.by8 b off x y).1;omega,(h.by8 b off x y).2⟩,fun k hk=>by have:=h.s k hk;omega⟩
theorem dP.new{T:Nat->Prop}(hc:dP g a len cap W)(hL:Lo g a len S B)(ht:am T W W')(hT:∀k,T k->B<=k):dP g a len cap W':=
 hc.keep ht (fun h=>by have:=hT _ h;have:=hL.gl;omega) (fun b off x y h=>by have:=hT _ h;have:=(hL.by8 b off x y).1;omega)
theorem jA(g:Nat)(a:Option Addr)(len cap:Nat)(S:Nat->Prop)(W:World)(hl:len<=1048576)(hS:S g)(hc:dP g a len cap W):
  Calls prog 66 #[.pointer (some ⟨g,0,none⟩)] W fun e w'=>∃x,e=.returned (.int .i64 x)/\(0<=x/\x<=255)/\Dr g a len cap S W w':=by
 obtain⟨i,hi,c1⟩:=hc.s1;obtain⟨h,c2⟩:=hc.s2;by_cases hlt:i<len
 ·obtain⟨b,Ja,rfl,hb,Jb,hz⟩:=hc.by8 o_;obtain⟨z,z0,z1,cz⟩:=hz i hlt;refine(uu g b Ja len cap i h z W hl hlt Jb ⟨z0,z1⟩ cz hc.s0 c1 c2 hc.fz).mono ?_;rintro e w' ⟨x,h',rfl,hx,n,rfl⟩;exact⟨x,rfl,hx,((hc.set2 h').drewN n).set1 (i+1) o_,(((am.refl S W).setCell hS _).drewN n).setCell hS _⟩
 ·refine(wP g a len cap i h W hl hi hlt hc.s0 c1 c2 hc.fz).mono ?_;rintro e w' ⟨x,h',rfl,hx,n,rfl⟩;exact⟨x,rfl,hx,(hc.set2 h').drewN n,((am.refl S W).setCell hS _).drewN n⟩
theorem aI(g:Nat)(a:Option Addr)(len cap:Nat)(S:Nat->Prop)(n:Int)(W:World)(hl:len<=1048576)(hS:S g)(hc:dP g a len cap W)(hn:1<=n/\n<=100000):
  Calls prog 31 #[.pointer (some ⟨g,0,none⟩),.int .i64 n] W fun e w'=>∃x,e=.returned (.int .i64 x)/\(0<=x/\x<n)/\Dr g a len cap S W w':=by
 have HC:=ah hc;have Jd:(n == 0)=false:=by simp;omega
 by_cases h:n<=256
 ·go_enter func31,ntmps31;go_wp2_with fail;refine(jA g a len cap S _ hl hS HC).mono ?_;rintro e w1 ⟨x,rfl,hx,Ja⟩;have H1:=ah Ja;go_wp2
  go_ret;exact⟨_,rfl,⟨Int.emod_nonneg _ o_,Int.emod_lt_of_pos _ o_⟩,H1⟩
 ·go_enter func31,ntmps31;go_wp2_with fail;refine(jA g a len cap S _ hl hS HC).mono ?_;rintro e w1 ⟨x,rfl,hx,Ja⟩;have H1:=ah Ja;go_wp2_with fail;refine(jA g a len cap S _ hl hS H1.out.cur).mono ?_;rintro e w2 ⟨y,rfl,hy,Jb⟩;have H2:Hid (Dr g a len cap S W w2):=⟨Jb.cur,H1.out.tcs.trans Jb.tcs⟩;go_wp2_with fail;refine(jA g a len cap S _ hl hS H2.out.cur).mono ?_;rintro e w3 ⟨z,rfl,hz,Jc⟩;have H3:Hid (Dr g a len cap S W w3):=⟨Jc.cur,H2.out.tcs.trans Jc.tcs⟩;go_wp2
  go_ret;exact⟨_,rfl,⟨Int.emod_nonneg _ o_,Int.emod_lt_of_pos _ o_⟩,H3⟩
theorem eZ(g:Nat)(a:Option Addr)(len cap:Nat)(S:Nat->Prop)(n:Int)(W:World)(hl:len<=1048576)(hS:S g)(hc:dP g a len cap W)(hn:1<=n/\n<=100000):
  Calls prog 30 #[.pointer (some ⟨g,0,none⟩),.int .i64 n] W fun e w'=>∃x,e=.returned (.bool x)/\Dr g a len cap S W w':=by
 have HC:=ah hc;go_enter func30,ntmps30;go_wp2_with fail;refine(aI g a len cap S _ _ hl hS HC.out hn).mono ?_;rintro e w1 ⟨x,rfl,hx,Ja⟩;have H1:=ah Ja;go_wp2;go_ret;exact⟨_,rfl,H1⟩
theorem uv(g:Nat)(a:Option Addr)(len cap:Nat)(S:Nat->Prop)(W:World)(hl:len<=1048576)(hS:S g)(hc:dP g a len cap W):
  Calls prog 163 #[.pointer (some ⟨g,0,none⟩)] W fun e w'=>∃y,e=.returned (.int .i64 y)/\Dr g a len cap S W w':=by
 have HC:=ah hc;go_enter func163,ntmps163;go_wp2_with fail;refine(aI g a len cap S _ _ hl hS HC.out o_).mono ?_;rintro e w1 ⟨x,rfl,hx,Jb⟩;have H1:=ah Jb;go_wp2_with fail;refine(aI g a len cap S _ _ hl hS H1.out.cur o_).mono ?_;rintro e w2 ⟨y,rfl,hy,Ja⟩;have H2:Hid (Dr g a len cap S W w2):=⟨Ja.cur,H1.out.tcs.trans Ja.tcs⟩;go_wp2
 all_goals go_ret
 all_goals exact⟨_,rfl,H2⟩
def B8(w:World)(a:Option Addr)(len:Nat):Prop:=
 0<len->∃b off,a=some ⟨b,off,none⟩/\b<w.heap.size/\∀j,j<len->∃z:Int,0<=z/\z<=255/\w.cell? ⟨b,off+j,none⟩=some (.int .u8 z)
theorem B8.below{w':World}(h:B8 w a len)(hb:Below w.heap.size w w'):B8 w' a len:=fun hl=>by
 obtain⟨b,off,ha,hlt,hc⟩:=h hl;exact⟨b,off,ha,by have:=hb.size;omega,fun j hj=>by obtain⟨z,z0,z1,cz⟩:=hc j hj;exact⟨z,z0,z1,(hb.cell (p:=⟨b,off+j,none⟩) hlt).trans cz⟩⟩
theorem wQ(b off len cap:Nat)(w:World)(hl:len<=1048576)(hc:∀j,j<len->∃z:Int,0<=z/\z<=255/\w.cell? ⟨b,off+j,none⟩=some (.int .u8 z)):
  Calls prog 29 #[.slice (some ⟨b,off,none⟩) len cap] w fun e w'=>∃h:Int,e=.returned (.pointer (some ⟨w.heap.size,0,none⟩))/\w'=w.alloc (.cells #[.slice (some ⟨b,off,none⟩) len cap,.int .i64 0,.int .i64 h] 102):=by
 have HC:=ah hc;go_enter func29,ntmps29;go_wp2
 go_loop [3,4] (fun hv i=>∃k:Nat,k<=len/\i=.int .i64 k/\∃h:Int,hv=.int .i64 h) (fun _ i=>len-(RowKit.intOf i).toNat)
 case atStart=>exact⟨0,y_,rfl,_,rfl⟩
 case round=>
  obtain⟨k,hk,rfl,h,rfl⟩:=hrel;by_cases hlt:k<len
  ·obtain⟨z,z0,z1,cz⟩:=HC.out k hlt;go_wp2
   go_round
   case rel=>exact⟨k+1,o_,by go_num,_,rfl⟩
   case measure=>simp[RowKit.intOf];omega
  ·go_wp2
   go_ret;first|exact⟨_,rfl,rfl⟩|exact⟨rfl,_,rfl⟩
theorem wS(a:Option Addr)(cap:Nat)(w:World):
  Calls prog 29 #[.slice a 0 cap] w fun e w'=>∃h:Int,e=.returned (.pointer (some ⟨w.heap.size,0,none⟩))/\w'=w.alloc (.cells #[.slice a 0 cap,.int .i64 0,.int .i64 h] 102):=by
 go_enter func29,ntmps29;go_wp2;refine wp_loop_rounds 1 ?_;rw[rounds_succ];go_wp2;go_ret;first|exact⟨_,rfl,rfl⟩|exact⟨rfl,_,rfl⟩
theorem so(a:Option Addr)(len cap:Nat)(h:Int)(w:World)(hb:B8 w a len):dP w.heap.size a len cap (w.alloc (.cells #[.slice a len cap,.int .i64 0,.int .i64 h] 102)):=by
 refine⟨i_,i_,⟨0,y_,i_⟩,⟨h,i_⟩,fun j=>by simp,fun hl=>?_⟩;obtain⟨b,Ja,ha,Jb,hc⟩:=hb hl;exact⟨b,Ja,ha,by simp;omega,o_,fun j hj=>by obtain⟨z,z0,z1,cz⟩:=hc j hj;exact⟨z,z0,z1,(World.cell?_alloc_past _ b _ Jb).trans cz⟩⟩
theorem zP(a:Option Addr)(len cap:Nat)(w:World)(hl:len<=1048576)(hb:B8 w a len):
  Calls prog 29 #[.slice a len cap] w fun e w'=>e=.returned (.pointer (some ⟨w.heap.size,0,none⟩))/\dP w.heap.size a len cap w'/\Below w.heap.size w w'/\w'.heap.size=w.heap.size+1/\Lo w.heap.size a len (fun k=>k=w.heap.size) w'.heap.size:=by
 have Ja:Lo w.heap.size a len (fun k=>k=w.heap.size) (w.heap.size+1):=⟨o_,rfl,fun b Jb h0 ha=>by obtain⟨b',Jd,Jc,Je,_⟩:=hb h0;rw[Jc]at ha;simp at ha;exact⟨o_,fun e=>by omega⟩,fun k hk=>by omega⟩;by_cases h0:len=0
 ·subst h0;refine(wS a cap w).mono ?_;rintro e w' ⟨h,rfl,rfl⟩;exact⟨rfl,so a 0 cap h w hb,r_.alloc n_ _,i_,by simpa using Ja⟩
 ·obtain⟨b,Jb,rfl,Jf,hc⟩:=hb o_;refine(wQ b Jb len cap w hl hc).mono ?_;rintro e w' ⟨h,rfl,rfl⟩;exact⟨rfl,so _ len cap h w hb,r_.alloc n_ _,i_,by simpa using Ja⟩
end Go.Proofs.YtlamjfhhefcohaaGreatDoor
