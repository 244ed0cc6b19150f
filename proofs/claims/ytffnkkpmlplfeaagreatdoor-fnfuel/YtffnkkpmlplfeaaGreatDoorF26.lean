import Derived.Test.YtffnkkpmlplfeaaGreatDoorF20
import Derived.Test.YtffnkkpmlplfeaaGreatDoorF14
import Derived.Deep.Cut
namespace Go.Proofs.YtffnkkpmlplfeaaGreatDoor
open Go.World List
open Go.Proofs.Tryz Go.RowKit
set_option linter.all false
set_option maxRecDepth 100000
set_option maxHeartbeats 0
variable[Inhabited Pick]
def kD(Z Y:BY)(l:List Int)(w:AT)(U:l.length<=maxLen)(h1:Ints w Z l)(h2:Ints w Y l):
  Calls prog 26 #[Z,Y] w λe w'=>e=rW (.bool true)/\Bl w w':=by
 have U:l.length<=9223372036854775807:=by unfold maxLen at U;omega
 obtain⟨a1,c1,rfl,Jd⟩:=h1;obtain⟨a2,c2,rfl,Jc⟩:=h2;have H1:=ah Jd;have H2:=ah Jc;go_in;go_wp2;go_loopw[5] (λi wr=>∃k:Nat,k<=l.length/\i=V k/\Bl w wr) (λi _=>l.length-(RowKit.intOf i).toNat)
 case atStart=>exact⟨0,y_,rfl,r_⟩
 case round=>
  obtain⟨k,hk,rfl,h⟩:=hrel;by_cases hlt:k<l.length
  ·obtain⟨b1,rfl,Jb⟩:=H1.o o_;obtain⟨b2,rfl,Ja⟩:=H2.o o_;have J:=Jb k hlt;have I:=Ja k hlt;have e1:=(h.cell (p:=⟨b1,k,none⟩) (b_ J)).trans J;have e2:=(h.cell (p:=⟨b2,k,none⟩) (b_ I)).trans I;generalize l[k]=z at e1 e2;go_wp2_with fail;go_region
   go_wp2;go_roundw
   case rel=>exact⟨k+1,o_,by go_num,h.drew⟩
   case measure=>exact FW
  ·go_wp2;go_ret;exact⟨rfl,h⟩
def wj(a:Option Addr)(n cap k:Nat)(h2:k<=n)(h3:n<=cap):∀w:AT,(Instr.slice 26 (.slice a n cap) none (some (V (k:Int))) none).run prog w=.ok (.slice a k cap) w:=by
 intro w;have h:prog.elem 26=2:=k_;have I:(sizeOf 2).run prog w=.ok 1 w:=k_;rw[run_slice_h w 26 a n cap (by rw[h];exact underlying26) .i64 _ o_ o_,h,I];cases a <;> simp[Result.andThen,sliced,Addr.add]
def Ints.take{w:AT}{a:Option Addr}{n c:Nat}{l:List Int}(h:Ints w (.slice a n c) l)(k:Nat)(Z:k<=n):Ints w (.slice a k c) (l.take k):=by
 obtain⟨Y,c',e,U⟩:=h;simp only[Value.slice.injEq]at e;obtain⟨rfl,rfl,rfl⟩:=e;have I:(l.take k).length=k:=by rw[length_take];omega
 refine⟨a,c,by rw[I],λh0=>?_⟩;rw[I]at h0;obtain⟨b,e,J⟩:=U o_;exact⟨b,e,λj hj=>by rw[getElem_take];exact J j (by rw[I]at hj;omega)⟩
def pC(v1 J:BY)(l m:List Int)(w:AT)(hm:m.length<=maxLen)(I:l <+:m)(h1:Ints w v1 l)(h2:Ints w J m)(Ja:∀a n c,J=.slice a n c->n<=c):
  Calls prog 21 #[v1,J] w λe w'=>e=rW (.bool true)/\Bl w w':=by
 have h:=I.length_le;have U:=h1;have Je:=h2;obtain⟨a1,c1,rfl,-⟩:=h1;obtain⟨a2,c2,rfl,-⟩:=h2;have Jc:l=m.take l.length:=prefix_iff_eq_take.1 I;have HC:=ah λW (hW:Bl w W)=>kD _ _ l W o_ (U.below hW) (by have:=(Je.take l.length h).below hW;rw[<-Jc]at this;exact this);have hr:=wj a2 m.length c2 l.length h (Ja _ _ _ rfl);have Jh:(l.length:Int)<=(m.length:Int):=o_
 obtain⟨ln,Jd⟩:=q_ l.length;obtain⟨mn,Z⟩:=q_ m.length;rw[<-Jd]at HC hr Jh⊢;rw[<-Z]at hr Jh⊢;clear U Je Ja Jc I Jd Z h hm;go_in;go_wp2_with fail;refine(HC.o w r_).mono ?_;rintro e w1 ⟨rfl,Y⟩;have HB:=ah Y;clear Y;go_wp2;go_ret;exact⟨rfl,HB⟩
def mq(s x u d:Int)(v1 v2:BY)(l:List Int)(w:AT)(hl:l.length<=maxLen)(h1:Ints w v1 l)(h2:Ints w v2 l):
  Calls prog 19 #[.agg #[V s,v1,V x,V u,V d],.agg #[V s,v2,V x,V u,V d]] w λe w'=>e=rW (.bool true)/\Bl w w':=by
 have HC:=ah λW (hW:Bl w W)=>kD _ _ l W hl (h1.below hW) (h2.below hW);obtain⟨a1,Z,rfl,-⟩:=h1;obtain⟨a2,c2,rfl,-⟩:=h2;obtain⟨J,Jc⟩:=q_ l.length;rw[<-Jc]at HC⊢;clear Jc hl;obtain⟨W2,U⟩:=q_ ((w.alloc (.cells #[V s,.slice a1 J Z,V x,V u,V d] 29)).alloc (.cells #[V s,.slice a2 J c2,V x,V u,V d] 29));obtain⟨B,hB⟩:=q_ w.heap.size;have Je:Bl w W2:=by rw[U];exact(au _ _).alloc i_ _
 have h:aK W2 B [V s,.slice a1 J Z,V x,V u,V d]:=by rw[U,hB];exact(aH w #[V s,.slice a1 J Z,V x,V u,V d] 29 i_).below (au _ _)
 have I:aK W2 (B+1) [V s,.slice a2 J c2,V x,V u,V d]:=by
  rw[U,hB];have:=aH (w.alloc (.cells #[V s,.slice a1 J Z,V x,V u,V d] 29)) #[V s,.slice a2 J c2,V x,V u,V d] 29 i_;rw[GO]at this;exact this
 have Jd:=ah U;have HB:=ah hB;have Jb:=ah Je;have H1:=ah h;have H2:=ah I;have p0:=(h 0 _ rfl).1;have p1:=(h 1 _ rfl).1;have q0:=(I 0 _ rfl).1;have q1:=(I 1 _ rfl).1;clear U hB Je h I;go_in;go_upto_region 1 with fail;rw[<-Jd.o,<-HB.o];clear Jd;go_wp2_with fail;refine(HC.o _ Jb).mono ?_;rintro e w1 ⟨rfl,Y⟩;have h:=H1.o.below Y;have I:=H2.o.below Y;have HF:Hid (Bl w w1):=Jb.o.trans (Y.mono Jb.o.size);have y2:=(h 2 _ rfl).1;have y3:=(h 3 _ rfl).1;have y4:=(h 4 _ rfl).1;have z2:=(I 2 _ rfl).1;have z3:=(I 3 _ rfl).1;have z4:=(I 4 _ rfl).1;clear Y p0 p1 q0 q1 h I;go_wp2;go_ret;exact⟨rfl,HF⟩
def wk(a:Option Addr)(len cap:Nat)(w:AT)(hl:len<=1048576)(hb:B8 w a len):∃x:Int,(0<=x/\x<=255)/\∀W,Bl w W->Calls prog 20 #[.slice a len cap,V 0] W λe w'=>e=rW (V x)/\w'=W:=by
 by_cases h:0<len
 ·obtain⟨b,Jb,rfl,J,hc⟩:=hb h;obtain⟨z,z0,Y,I⟩:=hc 0 h;refine⟨z,⟨z0,Y⟩,λW hW=>?_⟩;have Z:=(hW.cell (p:=⟨b,Jb+0,none⟩) J).trans I;rw[Nat.add_zero]at Z;have U:(0:Int)<(len:Int):=o_
  go_in;go_wp2;go_ret;exact⟨rfl,rfl⟩
 ·refine⟨19,o_,λW hW=>?_⟩;have U:¬(0:Int)<(len:Int):=o_
  go_in;go_wp2_with fail;refine bodyPost_ret (v:=V 19) (by simp[results,results20,go_sem];try rfl) rfl ?_;exact⟨rfl,rfl⟩
end Go.Proofs.YtffnkkpmlplfeaaGreatDoor
