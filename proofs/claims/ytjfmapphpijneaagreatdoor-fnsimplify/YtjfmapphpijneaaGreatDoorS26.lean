import Derived.Test.YtjfmapphpijneaaGreatDoorS24
import Derived.Test.YtjfmapphpijneaaGreatDoorS25
namespace Go.Proofs.YtjfmapphpijneaaGreatDoor
open Go.World List
open Go.Proofs.Tryz Go.RowKit
set_option linter.all false
set_option maxRecDepth 100000
set_option maxHeartbeats 0
variable[Inhabited Pick]
section
variable{w w':AT}{b off cap:Nat}{ss:List St}{a:Option Addr}
def lQ(w:AT)(b off:Nat)(ss:List St):Prop:=∀j (h:j<ss.length),∃ve vf,
 (w.cell? ⟨b,off+j*6,none⟩=some (V ss[j].kd)/\w.cell? ⟨b,off+j*6+1,none⟩=some (sV ss[j].nm)/\w.cell? ⟨b,off+j*6+2,none⟩=some ve/\w.cell? ⟨b,off+j*6+3,none⟩=some vf/\w.cell? ⟨b,off+j*6+4,none⟩=some (V ss[j].th)/\w.cell? ⟨b,off+j*6+5,none⟩=some (V ss[j].el))/\aC w ve ss[j].e/\aC w vf ss[j].f
def lQ.below(h:lQ w b off ss)(I:Bl w w'):lQ w' b off ss:=by intro j hj;have⟨ve,vf,⟨J,c1,U,c3,c4,c5⟩,he,Z⟩:=h j hj;have Ja:=b_ J;exact⟨ve,vf,⟨(I.cell (p:=⟨b,off+j*6,none⟩) Ja).trans J,(I.cell (p:=⟨b,off+j*6+1,none⟩) Ja).trans c1,(I.cell (p:=⟨b,off+j*6+2,none⟩) Ja).trans U,(I.cell (p:=⟨b,off+j*6+3,none⟩) Ja).trans c3,(I.cell (p:=⟨b,off+j*6+4,none⟩) Ja).trans c4,(I.cell (p:=⟨b,off+j*6+5,none⟩) Ja).trans c5⟩,he.below I,Z.below I⟩
def aZ(w:AT)(v:BY)(ss:List St):Prop:=∃a cap,v=.slice a ss.length cap/\ss.length<=cap/\cap<=9223372036854775807/\(0<ss.length->∃b off,a=some ⟨b,off,none⟩/\lQ w b off ss)
def aZ.below{v:BY}(h:aZ w v ss)(Z:Bl w w'):aZ w' v ss:=by obtain⟨a,Jb,rfl,J,I,h⟩:=h;refine⟨a,Jb,rfl,J,I,λh0=>?_⟩;obtain⟨b,Ja,rfl,U⟩:=h h0;exact⟨b,Ja,rfl,U.below Z⟩
def lQ.up(h:lQ w b off ss)(j:Nat)(hj:j<ss.length):∃ve vf,((∀o,DO (w.alloc o) b (off+j*6) (V ss[j].kd))/\(∀o,DO (w.alloc o) b (off+j*6+1) (sV ss[j].nm))/\(∀o,DO (w.alloc o) b (off+j*6+2) ve)/\(∀o,DO (w.alloc o) b (off+j*6+3) vf)/\(∀o,DO (w.alloc o) b (off+j*6+4) (V ss[j].th))/\(∀o,DO (w.alloc o) b (off+j*6+5) (V ss[j].el))) /\
  (DO w b (off+j*6) (V ss[j].kd)/\DO w b (off+j*6+1) (sV ss[j].nm)/\DO w b (off+j*6+2) ve/\DO w b (off+j*6+3) vf/\DO w b (off+j*6+4) (V ss[j].th)/\DO w b (off+j*6+5) (V ss[j].el))/\aC w ve ss[j].e/\aC w vf ss[j].f:=by
 have⟨ve,vf,⟨J,c1,U,Z,c4,c5⟩,he,hf⟩:=h j hj;have Ja:=b_ J;have I:∀o,Bl w (w.alloc o):=λo=>r_.alloc n_ o;exact⟨ve,vf,⟨λo=>((I o).cell (p:=⟨b,off+j*6,none⟩) Ja).trans J,λo=>((I o).cell (p:=⟨b,off+j*6+1,none⟩) Ja).trans c1,λo=>((I o).cell (p:=⟨b,off+j*6+2,none⟩) Ja).trans U,λo=>((I o).cell (p:=⟨b,off+j*6+3,none⟩) Ja).trans Z,λo=>((I o).cell (p:=⟨b,off+j*6+4,none⟩) Ja).trans c4,λo=>((I o).cell (p:=⟨b,off+j*6+5,none⟩) Ja).trans c5⟩,⟨J,c1,U,Z,c4,c5⟩,he,hf⟩
def aZ.cut(h:aZ w (.slice a ss.length cap) ss)(I J:Nat)(h1:I<=J)(h2:J<=ss.length):
  aZ w (.slice (if cap=I then a else a.map (·.add (I*6))) (J-I) (cap-I)) ((ss.take J).drop I):=by
 obtain⟨a',Jc,U,hl,hm,h⟩:=h;simp only[Value.slice.injEq,true_and]at U;obtain⟨rfl,rfl⟩:=U;refine⟨if cap=I then a else a.map (·.add (I*6)),cap-I,by simp[Nat.min_eq_left h2],by simp[Nat.min_eq_left h2];omega,o_,λh0=>?_⟩;simp only[length_drop,length_take,Nat.min_eq_left h2]at h0;obtain⟨b,Ja,rfl,hc⟩:=h o_;refine⟨b,Ja+I*6,?_,λj hj=>?_⟩;rw[if_neg o_];simp[Addr.add];simp only[length_drop,length_take,Nat.min_eq_left h2]at hj;have⟨ve,vf,Jb,U,Z⟩:=hc (I+j) o_;have e:((ss.take J).drop I)[j]'H6=ss[I+j]'(by omega):=i_;rw[e];refine⟨ve,vf,?_,U,Z⟩;have e1:Ja+I*6+j*6=Ja+(I+j)*6:=o_;rw[e1];exact Jb
def aZ.head(h:aZ w (.slice a ss.length cap) ss)(I:Nat)(h2:I<=ss.length):aZ w (.slice a I cap) (ss.take I):=by
 have:=h.cut 0 I y_ h2
 have e:(if cap=0 then a else a.map (·.add (0*6)))=a:=by split;rfl;cases a <;> simp[Addr.add]
 rw[e]at this;simpa using this
def sB(a:Option Addr)(n cap h I:Nat)(Z:h<=I)(h2:I<=n)(h3:n<=cap):∀w:AT,(Instr.slice 50 (.slice a n cap) (some (V h)) (some (V ((h:Int)+((I-h:Nat):Int)))) none).run prog w=.ok (.slice (if cap=h then a else a.map (·.add (h*6))) (I-h) (cap-h)) w:=by intro w;have J:prog.elem 50=79:=k_;have U:(sizeOf 79).run prog w=.ok 6 w:=k_;rw[run_slice_lh w 50 a n cap (by rw[J];exact underlying50) .i64 .i64 _ _ o_ o_ o_,J,U];simp only[Result.andThen,sliced,Int.toNat_natCast];have e:(((h:Int)+((I-h:Nat):Int))).toNat=I:=o_;rw[e]
def qY(a:Option Addr)(n cap h:Nat)(h2:h<=n)(h3:n<=cap)(J:Int)(Ja:J=h):∀w:AT,(Instr.slice 50 (.slice a n cap) (some (V J)) none none).run prog w=.ok (.slice (if cap=h then a else a.map (·.add (h*6))) (n-h) (cap-h)) w:=by intro w;subst Ja;have I:prog.elem 50=79:=k_;have U:(sizeOf 79).run prog w=.ok 6 w:=k_;rw[run_slice_l w 50 a n cap (by rw[I];exact underlying50) .i64 _ o_ o_,I,U];simp only[Result.andThen,sliced,Int.toNat_natCast]
def lenOf:BY->Nat|.slice _ n _=>n|_=>0
theorem EQ(n:Nat):∀(v:BY) (ss:List St) (w:AT) (hn:ss.length<=n) (hl:ss.length<=1048576) (hc:aZ w v ss),
  Calls prog 113 #[v] w λe w'=>e=rW (.bool (bw ss))/\Bl w w':=by
 induction n with
 | zero=>intro v ss w hn hl hc;have:ss=[]:=J3 o_;subst this;obtain⟨a,Jc,rfl,Jl,Ji,hc⟩:=hc;simp only[l_n]at*;clear hc;go_in;go_wp2_with fail;refine wp_loop_rounds 1 ?_;rw[rounds_succ];go_wp2;go_ret;exact⟨rfl,r_⟩
 | succ n ih=>
 intro v ss w hn hl hc;have⟨IH,HN⟩:=h2 ih hc;obtain⟨a,Jc,rfl,Jl,Ji,hc⟩:=hc;clear hc ih;go_in;go_wp2;go_loopw[0] (λv wr=>∃Z,Z.length<=ss.length/\aZ wr v Z/\bw ss=bw Z/\Bl w wr) (λv _=>lenOf v)
 case atStart=>exact⟨ss,n_,HN,rfl,r_⟩
 case round=>
  obtain⟨Z,Xa,Jw,Jf,hB⟩:=hrel;obtain⟨a,Jc,rfl,Jl,Ji,hc⟩:=Jw;have HF:=ah Jf;clear Jf;cases Z with
  | nil=>simp only[l_n];go_wp2;go_ret;exact⟨ak HF.o.symm,hB⟩
  | cons s r=>
   obtain⟨b,off,rfl,hs⟩:=hc i_;have⟨ve,vf,⟨g0,g1,g2,g3,g4,g5⟩,⟨c0,c1,c2,c3,c4,c5⟩,he,hf⟩:=hs.up 0 i_;simp only[Nat.zero_mul,Nat.add_zero,getElem_cons_zero]at c0 c1 c2 c3 c4 c5 g0 g1 g2 g3 g4 g5;have Je:aZ wr (.slice (some ⟨b,off,none⟩) (s::r).length Jc) (s::r):=⟨_,_,rfl,Jl,Ji,λ_=>⟨b,off,rfl,hs⟩⟩;have Ja:aZ wr (.slice (if Jc=1 then some ⟨b,off,none⟩else some ⟨b,off+6,none⟩) r.length (Jc-1)) r:=by
    have:=Je.cut 1 (s::r).length i_ n_
    simpa[Addr.add]using this
   simp only[l_c]at*;have HR:=ah Ja;have h1:(1:Int)<=(r.length:Int)+1:=o_;have U:Hid (bw ss=(decide (0<=s.th/\s.th<=r.length/\0<=s.el/\s.el<=r.length-s.th)&&(bw (r.take s.th.toNat)&&(bw ((r.take (s.th.toNat+s.el.toNat)).drop s.th.toNat)&&bw (r.drop (s.th.toNat+s.el.toNat)))))):=by show _=_;rw[HF.o,fitB_cons]
   obtain⟨a2,k2,rfl,-,-,-⟩:=he;obtain⟨a3,k3,rfl,-,-,-⟩:=hf;clear hs hc Je Ja HF;generalize s.kd=kI at c0 g0;generalize s.nm=nI at c1 g1;generalize s.th=tI at c4 g4 U;generalize s.el=lI at c5 g5 U;generalize (s::r)[0].e.length=n2 at c2 g2;generalize (s::r)[0].f.length=n3 at c3 g3;go_wp2_with fail;go_region;generalize (if Jc=1 then some ({block:=b,off:=off,spot:=none}:Addr)else some {block:=b,off:=off+6,spot:=none})=a1 at HR⊢;generalize hk1:Jc-1=k1 at HR⊢;have Jx:r.length<=k1:=o_;have Jv:k1<=9223372036854775807:=o_;clear hk1 c0 c1 c2 c3 c4 c5 g0 g1 g2 g3 g4 g5 h1;have Jd:Bl w (wr.alloc (.cells #[V kI,sV nI,.slice a2 n2 k2,.slice a3 n3 k3,V tI,V lI] 79)).drew:=(hB.alloc hB.size _).drew;by_cases q1:tI<0
   ·go_wp2;go_ret;exact⟨ak (by rw[U.o,decide_eq_false o_];rfl),Jd⟩
   by_cases q2:(r.length:Int)<tI
   ·go_wp2;go_ret;exact⟨ak (by rw[U.o,decide_eq_false o_];rfl),Jd⟩
   by_cases q3:lI<0
   ·go_wp2;go_ret;exact⟨ak (by rw[U.o,decide_eq_false o_];rfl),Jd⟩
   by_cases q4:(r.length:Int)-tI<lI
   ·go_wp2;go_ret;exact⟨ak (by rw[U.o,decide_eq_false o_];rfl),Jd⟩
   obtain⟨I,rfl⟩:=Int.eq_ofNat_of_zero_le (show 0<=tI by omega);obtain⟨J,rfl⟩:=Int.eq_ofNat_of_zero_le (show 0<=lI by omega);have Jz:I<=r.length:=o_;have Jy:I+J<=r.length:=o_;have Jg:Hid (bw ss=(bw (r.take I)&&(bw ((r.take (I+J)).drop I)&&bw (r.drop (I+J))))):=by show _=_;rw[U.o,decide_eq_true o_];simp
   clear U;go_wp2_with fail;have Jp:Bl wr (wr.alloc (.cells #[V kI,sV nI,.slice a2 n2 k2,.slice a3 n3 k3,V I,V J] 79)).drew:=(ao _ _).drew;refine(IH.o _ (r.take I) _ H6 H6 ((HR.o.below Jp).head I o_)).mono ?_;rintro e w1 ⟨rfl,Jr⟩;have Jb:Below (wr.heap.size+1) (wr.alloc (.cells #[V kI,sV nI,.slice a2 n2 k2,.slice a3 n3 k3,V I,V J] 79)) w1:=(r_.drew).trans (Jr.mono i_);have Jh:=hB.trans ((aw Jb).mono hB.size);have⟨x0,x1,x2,x3,x4,x5⟩:=sA Jb;clear Jp Jr Jd;cases hf1:bw (r.take I)
   ·go_wp2;go_ret;exact⟨ak (by rw[Jg.o,hf1];rfl),Jh⟩
   obtain⟨a5,k5,Ju,Jo⟩:∃a5 k5,(∀w:AT,(Instr.slice 50 (.slice a1 r.length k1) (some (V I)) (some (V ((I:Int)+(J:Int)))) none).run prog w=.ok (.slice a5 J k5) w)/\aZ wr (.slice a5 J k5) ((r.take (I+J)).drop I):=by have h:=sB a1 r.length k1 I (I+J) o_ o_ o_;have h':=HR.o.cut I (I+J) o_ o_;rw[show I+J-I=J by omega]at h h';exact⟨_,_,h,h'⟩
   have Jt:=ah Jo;clear Jo;go_wp2_with fail;have Jj:Bl wr w1:=aw Jb;refine(IH.o _ ((r.take (I+J)).drop I) _ H6 H6 (Jt.o.below Jj)).mono ?_;rintro e w2 ⟨rfl,Jq⟩;have Jn:=Jh.trans (Jq.mono Jh.size);have Jk:=Jj.trans (Jq.mono Jj.size);clear x0 x1 x2 x3 x4 x5 Ju;cases hf2:bw ((r.take (I+J)).drop I)
   ·go_wp2;go_ret;exact⟨ak (by rw[Jg.o,hf1,hf2];rfl),Jn⟩
   obtain⟨a6,k6,J_,Jm⟩:∃a6 k6,(∀w:AT,(Instr.slice 50 (.slice a1 r.length k1) (some (V ((I:Int)+(J:Int)))) none none).run prog w=.ok (.slice a6 (r.length-(I+J)) k6) w)/\aZ wr (.slice a6 (r.length-(I+J)) k6) (r.drop (I+J)):=by have h:=qY a1 r.length k1 (I+J) o_ o_ ((I:Int)+(J:Int)) o_;have h':=HR.o.cut (I+J) r.length o_ o_;rw[take_length]at h';exact⟨_,_,h,h'⟩
   have Js:=ah Jm;clear Jm;go_wp2;go_roundw
   case rel=>exact⟨r.drop (I+J),by simp;omega,Js.o.below Jk,by rw[Jg.o,hf1,hf2];rfl,Jn⟩
   case measure=>simp[lenOf];omega
end
section
variable{l a b:List St}{s:St}
structure wV (l:List St) (s:St) (a b:List St):Prop where
 is:l=s::(a++b)
 th:s.th=a.length
 el:s.el=b.length
def wV.take(h:wV l s a b)(Ja:List St):(a++b++Ja).take s.th.toNat=a/\((a++b++Ja).drop s.th.toNat).take s.el.toNat=b/\(a++b++Ja).drop (s.th.toNat+s.el.toNat)=Ja:=by
 have J:s.th.toNat=a.length:=by rw[h.th];simp
 have I:s.el.toNat=b.length:=by rw[h.el];simp
 rw[J,I];refine⟨i_,i_,?_⟩;rw[<-l_a];simp
def wV.tidy(h:wV l s a b)(Ja:List St):aM (l++Ja)=if ed (aV s (aM a) (aM b))=true then aV s (aM a) (aM b)else aV s (aM a) (aM b)++aM Ja:=by
 have e:l++Ja=s::(a++b++Ja):=by rw[h.is];simp
 have⟨U,J,I⟩:=h.take Ja;rw[e,tidyB_cons];unfold gX;rw[U,J,I]
def wV.ends(h:wV l s a b)(Ja:List St):ed (l++Ja)=(decide (s.kd=6) || ed Ja):=by
 have e:l++Ja=s::(a++b++Ja):=by rw[h.is];simp
 have⟨U,J,I⟩:=h.take Ja;rw[e,endsB_cons,I]
theorem Bv.one{w:AT}{S:Ft}{v:BY}(h:Bv w S v l):∃s a b,wV l s a b:=by
 cases h using Bv_i with
 | decl s x h1 h2 h3 h4=>exact⟨s,[],[],rfl,h3,h4⟩
 | set s x h1 h2 h3 h4=>exact⟨s,[],[],rfl,h3,h4⟩
 | store s x y h1 h2 h3 h4 h5=>exact⟨s,[],[],rfl,h4,h5⟩
 | ifs s x va vb A B vs us F H h1 h2 h3 h4 h5 h6 h7 h8=>exact⟨s,_,_,rfl,h7,h8⟩
 | whil s x va A vs F h1 h2 h3 h4 h5 h6=>exact⟨s,bW F A,[],i_,h5,h6⟩
 | ret s x h1 h2 h3 h4=>exact⟨s,[],[],rfl,h3,h4⟩
 | out s x h1 h2 h3 h4=>exact⟨s,[],[],rfl,h3,h4⟩
 | call s x h1 h2 h3 h4=>exact⟨s,[],[],rfl,h3,h4⟩
end
section
variable{ss:List St}
def jD(a:Option Addr)(n cap I J:Nat)(h1:I<=J)(h2:J<=n)(h3:n<=cap)(Z U:Int)(Jb:Z=I)(Ja:U=J):∀w:AT,(Instr.slice 50 (.slice a n cap) (some (V Z)) (some (V U)) none).run prog w=.ok (.slice (if cap=I then a else a.map (·.add (I*6))) (J-I) (cap-I)) w:=by intro w;have h:=sB a n cap I J h1 h2 h3 w;rw[show((I:Int)+((J-I:Nat):Int))=J by omega]at h;rw[Jb,Ja];exact h
def jE(ss:List St):Prop:=∀s∈ss,0<=s.th/\0<=s.el
def jE.take(h:jE ss)(n:Nat):jE (ss.take n):=λs hs=>h s (mem_of_mem_take hs)
def jE.drop(h:jE ss)(n:Nat):jE (ss.drop n):=λs hs=>h s (J6 hs)
theorem wW(n:Nat):∀(v:BY) (ss:List St) (w:AT) (hn:ss.length<=n) (hl:ss.length<=1048576) (hp:jE ss) (hc:aZ w v ss),
  Calls prog 74 #[v] w λe w'=>e=rW (.bool (bw ss))/\Bl w w':=by
 induction n with
 | zero=>intro v ss w hn hl hp hc;have:ss=[]:=J3 o_;subst this;obtain⟨a,Jf,rfl,Jy,Jp,hc⟩:=hc;simp only[l_n]at*;clear hc hp;go_in;go_wp2_with fail;refine wp_loop_rounds 1 ?_;rw[rounds_succ];go_wp2;go_ret;exact⟨rfl,r_⟩
 | succ n ih=>
 intro v ss w hn hl hp hc;have⟨IH,HP,HN⟩:=h3 ih hp hc;obtain⟨a,Jf,rfl,Jy,Jp,hc⟩:=hc;have HC:=ah hc;go_in;go_wp2;go_loopw[3] (λi wr=>∃k:Nat,k<=ss.length/\i=V k/\bw ss=bw (ss.drop k)/\Bl w wr) (λi _=>ss.length-(RowKit.intOf i).toNat)
 case atStart=>exact⟨0,y_,rfl,rfl,r_⟩
 case round=>
  obtain⟨k,hk,rfl,Jd,U⟩:=hrel;have HF:=ah Jd;clear Jd;by_cases hlt:k<ss.length
  case neg=>go_wp2;go_ret;exact⟨ak (by rw[HF.o,drop_of_length_le o_];rfl),U⟩
  case pos=>
   obtain⟨b,Jh,rfl,hs⟩:=HC o_;have⟨ve,vf,⟨c0,c1,c2,c3,c4,c5⟩,he,hf⟩:=(hs.below U) k hlt;have Jb:Hid _:=(HF.o.trans (congrArg bw (drop_eq_getElem_cons hlt))).trans (fitB_cons ss[k] (ss.drop (k+1)));have Jg:=HP ss[k] (g_ hlt);obtain⟨a2,k2,rfl,-,-,-⟩:=he;obtain⟨a3,k3,rfl,-,-,-⟩:=hf;generalize hr:ss.drop (k+1)=r at Jb;have Jk:r.length+k+1=ss.length:=(by rw[<-hr];simp;omega);generalize ss[k].kd=kI at c0;generalize ss[k].nm=nI at c1;generalize ss[k].th=tI at c4 Jb Jg;generalize ss[k].el=lI at c5 Jb Jg;generalize ss[k].e.length=n2 at c2;generalize ss[k].f.length=n3 at c3;obtain⟨I,rfl⟩:=Int.eq_ofNat_of_zero_le Jg.1;obtain⟨J,rfl⟩:=Int.eq_ofNat_of_zero_le Jg.2;clear Jg;have⟨HR,Jc⟩:=h2 hr Jk;have Ji:Bl w (wr.alloc (.cells #[V kI,sV nI,.slice a2 n2 k2,.slice a3 n3 k3,V I,V J] 79)):=U.alloc U.size _;by_cases q2:(ss.length:Int)-k-1<I
   ·clear Jk;go_wp2;go_ret;exact⟨ak (by have:=Jc.o;rw[Jb.o,decide_eq_false o_];rfl),Ji⟩
   by_cases q4:(ss.length:Int)-k-1-I<J
   ·go_wp2;go_ret;exact⟨ak (by have:=Jc.o;rw[Jb.o,decide_eq_false o_];rfl),Ji⟩
   have Jw:k+1+I+J<=ss.length:=o_;have Jj:Hid (bw ss=(bw (r.take I)&&(bw ((r.take (I+J)).drop I)&&bw (r.drop (I+J))))):=by show _=_;rw[Jb.o,decide_eq_true o_];simp
   have Jr:Hid ((ss.take (k+1+I)).drop (k+1)=r.take I):=by show _=_;rw[<-HR.o,drop_take];congr 1;omega
   have Jt:Hid ((ss.take (k+1+I+J)).drop (k+1+I)=(r.take (I+J)).drop I):=by show _=_;rw[<-HR.o,drop_take,drop_take,drop_drop];congr 1;omega
   have Jq:Hid (ss.drop (k+1+I+J)=r.drop (I+J)):=by show _=_;rw[<-HR.o,drop_drop];congr 1;omega
   obtain⟨a5,k5,Jz,Jn⟩:∃a5 k5,(∀w:AT,(Instr.slice 50 (.slice (some ⟨b,Jh,none⟩) ss.length Jf) (some (V ((k:Int)+1))) (some (V ((k:Int)+1+(I:Int)))) none).run prog w=.ok (.slice a5 I k5) w)/\aZ w (.slice a5 I k5) (r.take I):=by have h:=jD (some ⟨b,Jh,none⟩) ss.length Jf (k+1) (k+1+I) o_ o_ o_ ((k:Int)+1) ((k:Int)+1+(I:Int)) o_ o_;have Z:=HN.o.cut (k+1) (k+1+I) o_ o_;rw[show k+1+I-(k+1)=I by omega]at h Z;rw[Jr.o]at Z;exact⟨_,_,h,Z⟩
   have Ju:=ah Jn;clear Jn Jb Jk;go_wp2_with fail;refine(IH.o _ (r.take I) _ (by have:=Jc.o;simp;omega) (by have:=Jc.o;simp;omega) (by rw[<-HR.o];exact(HP.o.drop _).take _) (Ju.o.below Ji)).mono ?_;rintro e w1 ⟨rfl,Jx⟩;have Ja:Below (wr.heap.size+1) (wr.alloc (.cells #[V kI,sV nI,.slice a2 n2 k2,.slice a3 n3 k3,V I,V J] 79)) w1:=Jx.mono i_;have Jo:=U.trans ((aw Ja).mono U.size);have⟨x0,x1,x2,x3,x4,x5⟩:=sA Ja;cases hf1:bw (r.take I)
   ·go_wp2;go_ret;exact⟨ak (by rw[Jj.o,hf1];rfl),Jo⟩
   obtain⟨a6,k6,J_,Jl⟩:∃a6 k6,(∀w:AT,(Instr.slice 50 (.slice (some ⟨b,Jh,none⟩) ss.length Jf) (some (V ((k:Int)+1+(I:Int)))) (some (V ((k:Int)+1+(I:Int)+(J:Int)))) none).run prog w=.ok (.slice a6 J k6) w)/\aZ w (.slice a6 J k6) ((r.take (I+J)).drop I):=by have h:=jD (some ⟨b,Jh,none⟩) ss.length Jf (k+1+I) (k+1+I+J) o_ o_ o_ ((k:Int)+1+(I:Int)) ((k:Int)+1+(I:Int)+(J:Int)) o_ o_;have Z:=HN.o.cut (k+1+I) (k+1+I+J) o_ o_;rw[show k+1+I+J-(k+1+I)=J by omega]at h Z;rw[Jt.o]at Z;exact⟨_,_,h,Z⟩
   have Js:=ah Jl;clear Jl;go_wp2_with fail;refine(IH.o _ ((r.take (I+J)).drop I) _ (by have:=Jc.o;simp;omega) (by have:=Jc.o;simp;omega) (by rw[<-HR.o];exact((HP.o.drop _).take _).drop _) (Js.o.below Jo)).mono ?_;rintro e w2 ⟨rfl,Jv⟩;have Je:=Ja.trans (Jv.mono (by have:=Ja.size;simp at this;omega));have Jm:=U.trans ((aw Je).mono U.size);have⟨x0,x1,x2,x3,x4,x5⟩:=sA Je;cases hf2:bw ((r.take (I+J)).drop I)
   ·go_wp2;go_ret;exact⟨ak (by rw[Jj.o,hf1,hf2];rfl),Jm⟩
   go_wp2;go_roundw
   case rel=>exact⟨k+1+I+J,o_,by go_num,by rw[Jj.o,hf1,hf2,Jq.o];rfl,Jm⟩
   case measure=>exact IF
end
def GV(k:Int)(s:Io)(Z vf:BY)(I J:List Nd)(t l:Int)(w:AT)(hk:k<1\/8<k)(he:aC w Z I)(hf:aC w vf J):
  Calls prog 73 #[.agg #[V k,sV s,Z,vf,V t,V l]] w λe w'=>e=rW (.bool (bH ⟨k,s,I,J,t,l⟩))/\Bl w w':=by
 obtain⟨ae,ce,rfl,-,-,-⟩:=he;obtain⟨af,cf,rfl,-,-,-⟩:=hf;have U:decide (1<=k/\k<=8)=false:=by simp;omega
 have hs:bH ⟨k,s,I,J,t,l⟩=false:=by simp only[bH,stmtB,U,Bool.false_and]
 rw[hs];have h1:(k == 1)=false:=by simp;omega
 have h2:(k == 2)=false:=by simp;omega
 have h3:(k == 3)=false:=by simp;omega
 have HD:=ah U;go_in;go_wp2_with(go_at_call 45;refine(ja _ _ _ _).mono ?_;rintro e w' ⟨rfl,rfl⟩;rw[HD.o]);go_ret;exact⟨rfl,r_.alloc n_ _⟩
def Ah(s:St)(h vf:BY)(w:AT)(Ja:s.e.length<=2000)(Jb:s.f.length<=2000)(U:aC w h s.e)(J:aC w vf s.f):
  Calls prog 73 #[.agg #[V s.kd,sV s.nm,h,vf,V s.th,V s.el]] w λe w'=>e=rW (.bool (bH s))/\Bl w w':=by
 obtain⟨k,s,I,fs,t,l⟩:=s;by_cases hk:k<1\/8<k;exact GV k s h vf I fs t l w hk U J;have h9:k=1\/k=2\/k=3\/k=4\/k=5\/k=6\/k=7\/k=8:=o_;rcases h9 with rfl|rfl|rfl|rfl|rfl|rfl|rfl|rfl;exact CB 1 (.inl rfl) s h vf I fs t l w Ja Jb U J;exact CB 2 (.inr rfl) s h vf I fs t l w Ja Jb U J;exact GU s h vf I fs t l w Ja Jb U J;exact oZ 4 (.inl rfl) s h vf I fs t l w Ja Jb U J;exact oZ 5 (.inr (.inl rfl)) s h vf I fs t l w Ja Jb U J;exact oZ 6 (.inr (.inr (.inl rfl))) s h vf I fs t l w Ja Jb U J;exact oZ 7 (.inr (.inr (.inr (.inl rfl)))) s h vf I fs t l w Ja Jb U J;exact oZ 8 (.inr (.inr (.inr (.inr rfl)))) s h vf I fs t l w Ja Jb U J
def qZ(k t l:Int)(nm:Io)(I af:Option Addr)(J U nf Z:Nat)(w:AT):
  Calls prog 97 #[.agg #[V k,sV nm,.slice I J U,.slice af nf Z,V t,V l]] w λe w'=>e=rW (.agg #[.slice I J U,.slice af nf Z])/\Bl w w':=by
 go_in;go_wp2_with fail;exact bodyPost_ret (v:=.agg #[.slice I J U,.slice af nf Z]) (by simp[results,results97,go_sem]) rfl ⟨rfl,(ao _ _).alloc i_ _⟩
def IR(u v:BY)(W:AT):(Instr.index 176 (.agg #[u,v]) (V ((1:Nat):Int))).run prog W=.ok v W:=by simp[Instr.index,go_sem]
def IT(u v:BY)(W:AT):(Instr.index 176 (.agg #[u,v]) (V ((0:Nat):Int))).run prog W=.ok u W:=by simp[Instr.index,go_sem]
structure SV where
 s:St
 ve:BY
 vf:BY
 ke:List Nat
 kf:List Nat
def cellsS(q:SV):List BY:=[V q.s.kd,sV q.s.nm,q.ve,q.vf,V q.s.th,V q.s.el]
def bO(R:List SV):List BY:=R.flatMap cellsS
def dP(R:List SV):List Nat:=R.flatMap (λq=>q.ke++q.kf)
theorem eE(R:List SV):(bO R).length=R.length*6:=by
 induction R with
 | nil=>rfl
 | cons a r ih=>
  have:(bO (a::r)).length=6+(bO r).length:=by simp[bO,cellsS];omega
  rw[this,ih,l_c];omega
def jb(a b:List SV):bO (a++b)=bO a++bO b:=by simp[bO]
def iu(a b:List SV):dP (a++b)=dP a++dP b:=by simp[dP]
theorem fB:∀(R:List SV) (j i:Nat) (hj:j<R.length),i<6->(bO R)[j*6+i]? =(cellsS R[j])[i]?
 | x::l,0,i,_,hi=>by
  have:(cellsS x).length=6:=rfl
  show(cellsS x++bO l)[0*6+i]? =_;rw[getElem?_append_left o_];simp
 | x::l,j+1,i,hj,hi=>by have h7:(cellsS x).length=6:=rfl;show(cellsS x++bO l)[(j+1)*6+i]? =_;rw[getElem?_append_right o_];have e:(j+1)*6+i-(cellsS x).length=j*6+i:=o_;rw[e,fB l j i (IN hj) hi];simp
def gR(R:List SV)(h:∀q∈R,q.ve.oneCell'=true/\q.vf.oneCell'=true):∀u∈bO R,u.oneCell'=true:=by intro u I;simp only[bO,mem_flatMap]at I;obtain⟨q,J,I⟩:=I;have⟨U,h2⟩:=h q J;simp only[cellsS,mem_cons,not_mem_nil,or_false]at I;rcases I with rfl|rfl|rfl|rfl|rfl|rfl;rfl;rfl;exact U;exact h2;rfl;rfl
def gS:(prog.info? 79).map (λi=>(i.zero,i.size,i.bytes))=some (some (.agg #[V 0,sV ⟨#[]⟩,nV,nV,V 0,V 0]),6,88):=by kernel_rfl
def aC.cell1{w:AT}{v:BY}{I:List Nd}(h:aC w v I):v.oneCell'=true:=by obtain⟨a,c,rfl,-⟩:=h;rfl
section
variable{w w':AT}{ps:List Io}
def yO(w:AT)(b off:Nat)(ps:List Io):Prop:=∀j (h:j<ps.length),w.cell? ⟨b,off+j,none⟩=some (sV ps[j])
def yO.below{b off:Nat}(h:yO w b off ps)(J:Bl w w'):yO w' b off ps:=by intro j I;have c:=h j I;exact(J.cell (b_ c)).trans c
def be(w:AT)(v:BY)(ps:List Io):Prop:=∃a cap,v=.slice a ps.length cap/\ps.length<=cap/\cap<=9223372036854775807/\(0<ps.length->∃b off,a=some ⟨b,off,none⟩/\yO w b off ps)
def be.below{v:BY}(h:be w v ps)(Z:Bl w w'):be w' v ps:=by obtain⟨a,Jb,rfl,J,I,h⟩:=h;refine⟨a,Jb,rfl,J,I,λh0=>?_⟩;obtain⟨b,Ja,rfl,U⟩:=h h0;exact⟨b,Ja,rfl,U.below Z⟩
def Ai(f:Fu)(vp vb:BY)(w:AT)(hT:gF w)(hf:fk f)(hp:be w vp f.pm)(hb:aZ w vb f.bd):
  Calls prog 84 #[.agg #[sV f.nm,vp,vb]] w λe w'=>e=rW (.bool (cC f))/\Bl w w':=by
 obtain⟨name,ps,ss⟩:=f;simp only at hp hb⊢;have⟨HP,HS,HT,HF⟩:=h4 hp hb hT hf;have Ju:ps.length<=1048576:=HF.o.1;have Jl:ss.length<=1048576:=HF.o.2.1;obtain⟨ap,cp,rfl,-,-,Jp⟩:=hp;obtain⟨ab,cb,rfl,-,-,Jj⟩:=hb;have⟨Jk,Js⟩:=h2 Jp Jj;go_in;go_wp2_with fail;refine(jW _ _).mono ?_;rintro e w1 ⟨rfl,Jf⟩;simp only[Bl,J9]at Jf;have Jh:=aw Jf;have⟨x0,x1,x2⟩:=mY Jf;cases hn:bh name
 ·go_wp2;go_ret;exact⟨ak (by simp only[cC,hn,Bool.false_and]),Jh⟩
 by_cases h6:6<ps.length
 ·go_wp2;go_ret;exact⟨ak (by simp only[cC,hn,decide_eq_false (show ¬ps.length<=6 by omega),Bool.false_and,Bool.and_false]),Jh⟩
 by_cases h5:500<ss.length
 ·go_wp2;go_ret;exact⟨ak (by simp only[cC,hn,decide_eq_false (show ¬ss.length<=500 by omega),Bool.false_and,Bool.and_false]),Jh⟩
 have Je:Hid (cC ⟨name,ps,ss⟩=(ps.all bh&&(stmtsB stmtB ss&&bw ss))):=by show _=_;simp only[cC,hn,decide_eq_true (show ps.length<=6 by omega),decide_eq_true (show ss.length<=500 by omega),Bool.true_and]
 go_wp2;go_loopw[27] (λi wr=>∃k:Nat,k<=ps.length/\i=V k/\(∀s∈ps.take k,bh s=true)/\Below (w.heap.size+1) (w.alloc (.cells #[sV name,.slice ap ps.length cp,.slice ab ss.length cb] 52)) wr) (λi _=>ps.length-(RowKit.intOf i).toNat)
 case atStart=>exact⟨0,y_,rfl,i_,Jf⟩
 case round=>
  obtain⟨k,hk,rfl,hg,I⟩:=hrel;have U:=ah hg;have Ja:=aw I;by_cases hlt:k<ps.length
  ·obtain⟨b,Jo,rfl,hc⟩:=Jk o_;have d0:=(hc.below Ja) k hlt;have Z:Hid (ps.take (k+1)=ps.take k++[ps[k]]):=aU ps k hlt;have HX:Hid (bh ps[k]=false->ps.all bh=false):=yp hlt;generalize ps[k]=s at d0 Z HX;go_wp2_with fail;refine(jW _ _).mono ?_;rintro e w2 ⟨rfl,Jd⟩;have Jc:=I.trans (Jd.mono (by have:=I.size;simp at this;omega));cases hv:bh s
   ·go_wp2;go_ret;exact⟨ak (by rw[Je.o,HX.o hv];rfl),aw Jc⟩
   go_wp2;go_roundw
   case rel=>refine⟨k+1,o_,by go_num,λm hm=>?_,Jc⟩;rw[Z.o]at hm;rcases J5.1 hm with hm|hm;exact U m hm;rw[J7.1 hm];exact hv
   case measure=>exact IF
  have HA:Hid (ps.all bh=true):=by show _=_;rw[all_eq_true];have:=U.o;rw[take_of_length_le o_]at this;exact this
  have⟨x0,x1,x2⟩:=mY I;go_wp2;go_loopw[5,38] (λq i wr=>∃k:Nat,k<=ss.length/\i=V k/\q=V (aK (ss.take k):Nat)/\aK (ss.take k)<=2000/\(∀s∈ss.take k,stmtB s=true)/\Below (w.heap.size+1) (w.alloc (.cells #[sV name,.slice ap ps.length cp,.slice ab ss.length cb] 52)) wr) (λ_ i _=>ss.length-(RowKit.intOf i).toNat)
  case atStart=>exact⟨0,y_,rfl,rfl,by simp[aK],i_,I⟩
  case round=>
   obtain⟨k,hk,rfl,rfl,hq,hg,I⟩:=hrel;have U:=ah hg;have Ja:=aw I;by_cases hlt:k<ss.length
   ·obtain⟨b,Jo,rfl,hc⟩:=Js o_;have⟨ve,vf,⟨c0,c1,c2,c3,c4,c5⟩,he,hf⟩:=(hc.below Ja) k hlt;have Z:Hid (ss.take (k+1)=ss.take k++[ss[k]]):=aU ss k hlt;have HX:Hid (stmtB ss[k]=false->stmtsB stmtB ss=false):=oC hlt;have J:Hid _:=kN ss k hlt;have HY:Hid (2000<aK (ss.take (k+1))->stmtsB stmtB ss=false):=oB;have Ji:=HF.o.2.2 ss[k] (g_ hlt);generalize ss[k]=s at c0 c1 c2 c3 c4 c5 he hf Z HX J Ji;generalize aK (ss.take k)=q at hq J;have⟨Jm,Jq⟩:=h2 he hf;obtain⟨a2,k2,rfl,-,-,-⟩:=he;obtain⟨a3,k3,rfl,-,-,-⟩:=hf;have Jn:=Ji.1;have Jr:=Ji.2;by_cases hs:2000<q+(s.e.length+s.f.length)
    ·go_wp2;go_ret;exact⟨ak (by rw[Je.o,HY.o (by rw[J.o];omega)];simp),Ja.alloc Ja.size _⟩
    have Jb:Bl wr (wr.alloc (.cells #[V s.kd,sV s.nm,.slice a2 s.e.length k2,.slice a3 s.f.length k3,V s.th,V s.el] 79)):=ao _ _;go_wp2_with fail;refine(Af s _ _ _ ((HT.o.below HT.o.size Ja).below (HT.o.below HT.o.size Ja).size Jb) Jn Jr (Jm.o.below Jb) (Jq.o.below Jb)).mono ?_;rintro e w2 ⟨rfl,Jd⟩;have Jg:=Jb.trans (Jd.mono Jb.size);have Jc:=I.trans (Jg.mono (by have:=I.size;simp at this;omega));cases hv:stmtB s
    ·go_wp2;go_ret;exact⟨ak (by rw[Je.o,HX.o hv];simp),aw Jc⟩
    go_wp2;go_roundw
    case rel=>refine⟨k+1,o_,by go_num,?_,by rw[J.o];omega,λm hm=>?_,Jc⟩;rw[J.o];congr 1;omega;rw[Z.o]at hm;rcases J5.1 hm with hm|hm;exact U m hm;rw[J7.1 hm];exact hv
    case measure=>exact IF
   have Jt:Hid (stmtsB stmtB ss=true):=by show _=_;have h1:=U;rw[take_of_length_le o_]at h1 hq;exact qI hq h1
   have⟨x0,x1,x2⟩:=mY I;go_wp2_with fail;refine(EQ ss.length _ ss _ n_ Jl (HS.o.below Ja)).mono ?_;rintro e w2 ⟨rfl,Jd⟩;go_wp2;go_ret;exact⟨ak (by rw[Je.o,HA.o,Jt.o];rfl),Ja.trans (Jd.mono Ja.size)⟩
end
end Go.Proofs.YtjfmapphpijneaaGreatDoor
