import Derived.Test.YtngnoopnloojjaaGreatDoorQ26
import Derived.Deep.RegionWith
import Derived.WalkSmall
import Derived.Test.YtngnoopnloojjaaGreatDoorQ29
namespace Go.Proofs.YtngnoopnloojjaaGreatDoor
open Go.World List
open Go.Proofs.Tryz
set_option linter.all false
set_option maxRecDepth 100000
set_option maxHeartbeats 0
variable[Inhabited Pick]
section
open Go.RowKit
def Ih{k:IntKind}{a b:Int}(h:a=b):Ending.returned (.int k a)=rW (.int k b):=by rw[h]
end
section
open Go.RowKit
variable{w:AT}
def oJ:List BY:=[.bool false,V 0,V 0,V 0,.bool false,V (-2147483648),V 2147483647,V 0,.bool true,V 0,V 0,V 0,.bool true,V 0,V 0,V 1,.bool true,V 0,V 6,V 0,.bool false,V 0,V 0,V 0,.bool false,V 0,V 2,V 1,.bool false,V 0,V 15,V 2,.bool false,V 0,V 0,V 2,.bool false,V 0,V 0,V 2]
def iE:List Bool:=[false,false,false,false,false,true,false,false,false,false,true,false,false,false,false,true,true,false,false,false,false,false,true,true,false,false,false,true,false,false,false,false,false,false,false,false,false,false,false,false,false,false,false,false,true]
structure eG (w:AT):Prop where
 node:∀j,j<40->w.cell? ⟨0,j,none⟩=some (oJ.getD j .nilFunc)
 stmt:True->∀j,j<45->w.cell? ⟨2,j,none⟩=some (.bool (iE.getD j false))
 size:0<w.heap.size/\2<w.heap.size
def eG.below{w':AT}{B:Nat}(h:eG w)(I:0<B/\2<B)(H:Below B w w'):eG w':=by refine⟨λj hj=>?_,λht j hj=>?_,l_ h.size.1 H.size,l_ h.size.2 H.size⟩;rw[H.cell I.1];exact h.node j hj;rw[H.cell I.2];exact h.stmt ht j hj
def sB(s:IF)(w:AT):Calls prog 62 #[sV s,.bool true] w λe w'=>e=rW (.bool (cU s))/\Bl w w':=by go_in;go_wp2_with fail;refine(kH _ _).mono ?_;rintro e w' ⟨rfl,H⟩;go_wp2;go_ret;exact⟨rfl,H⟩
def v_(s:IF)(w:AT):Calls prog 62 #[sV s,.bool false] w λe w'=>e=rW (.bool (s.toList == []))/\Bl w w':=by go_in;go_wp2;go_ret;exact⟨i_,r_⟩
def eG.nodeUp(h:eG w)(j:Nat)(hj:j<40)(o:Obj):Bo (w.alloc o) 0 j (oJ.getD j .nilFunc):=
 (h.below h.size (r_.alloc n_ o)).node j hj
def eG.stmtUp(h:eG w)(j:Nat)(H:j<45)(o:Obj)(I:True:=by trivial):Bo (w.alloc o) 2 j (.bool (iE.getD j false)):=
 (h.below h.size (r_.alloc n_ o)).stmt I j H
def eG.all(h:eG w)(o:Obj):let U:=λ(j:Nat) v=>Bo (w.alloc o) 0 j v;U 4 (.bool false)/\U 5 (V (-2147483648))/\U 6 (V 2147483647)/\U 7 (V 0)/\U 8 (.bool true)/\U 9 (V 0)/\U 10 (V 0)/\U 11 (V 0)/\U 12 (.bool true)/\U 13 (V 0)/\U 14 (V 0)/\U 15 (V 1)/\U 16 (.bool true)/\U 17 (V 0)/\U 18 (V 6)/\U 19 (V 0)/\U 20 (.bool false)/\U 21 (V 0)/\U 22 (V 0)/\U 23 (V 0)/\U 24 (.bool false)/\U 25 (V 0)/\U 26 (V 2)/\U 27 (V 1)/\U 28 (.bool false)/\U 29 (V 0)/\U 30 (V 15)/\U 31 (V 2)/\U 32 (.bool false)/\U 33 (V 0)/\U 34 (V 0)/\U 35 (V 2)/\U 36 (.bool false)/\U 37 (V 0)/\U 38 (V 0)/\U 39 (V 2):=by and_intros <;> exact h.nodeUp _ o_ o
def nine{k:Int}(h:1<=k/\k<=9):k=1\/k=2\/k=3\/k=4\/k=5\/k=6\/k=7\/k=8\/k=9:=by omega
def oK(n:Nd)(w:AT)(I:eG w)(H:1<=n.kd/\n.kd<=9):Calls prog 33 #[.agg #[V n.kd,V n.val,sV n.nm]] w λe w'=>e=rW (V (arity n))/\Bl w w':=by obtain⟨k,v,s⟩:=n;have⟨c0,Y,Z,c3,c4,c5,c6,X,J,U,Jo,Jk,Ja,Jq,Ji,Jm,Jy,Jc,Jw,Jp,Jz,Jt,O,Js,Ju,Jd,Jf,Jv,Jn,Jb,Jl,Je,Jg,Jr,Jj,Jh⟩:=I.all (.cells #[V k,V v,sV s] 36);rcases nine H with rfl|rfl|rfl|rfl|rfl|rfl|rfl|rfl|rfl <;> (go_in;go_wp2;go_ret;exact⟨Ih (by simp[arity]),r_.alloc n_ _⟩)
theorem B3(n:Nd)(w:AT)(H:eG w):Calls prog 32 #[.agg #[V n.kd,V n.val,sV n.nm]] w λe w'=>e=rW (.bool (aD n))/\Bl w w':=by
  obtain⟨k,v,s⟩:=n;by_cases hk:1<=k/\k<=9
  · have⟨c0,Z,c2,c3,c4,c5,c6,Y,O,X,Jo,Jk,Ja,Jq,Ji,Jm,Jy,Jc,Jw,Jp,Jz,Jt,U,Js,Ju,Jd,Jf,Jv,Jn,Jb,Jl,Je,Jg,Jr,Jj,Jh⟩:=H.all (.cells #[V k,V v,sV s] 36)
    clear H;by_cases h1:v<if k=1 then -2147483648 else 0
    case' neg=>by_cases h2:(if k=1 then 2147483647 else if k=4 then 6 else if k=6 then 2 else if k=7 then 15 else 0)<v
    all_goals
      rcases nine hk with rfl|rfl|rfl|rfl|rfl|rfl|rfl|rfl|rfl;all_goals
        simp only[Int.reduceEq,reduceIte]at h1;try simp only[Int.reduceEq,reduceIte]at h2
        go_in;go_wp2_with fail;first
        | go_ret;exact⟨aB (by simp[aD];omega),(aq _ _).alloc i_ _⟩
        | first
          | with_reducible refine(v_ _ _).mono ?_
          | with_reducible refine(sB _ _).mono ?_
          rintro e w' ⟨rfl,I⟩;go_wp2;go_ret;refine⟨aB ?_,((aq _ _).alloc i_ _).trans (I.mono Do)⟩;simp[aD];omega
  have J:aD ⟨k,v,s⟩=false:=by simp only[aD];rw[if_neg o_,if_neg o_,if_neg o_,if_neg o_,if_neg o_,if_neg o_]
  rw[J];by_cases h':1<=k
  all_goals
    go_in;go_wp2;go_ret;exact⟨rfl,r_.alloc n_ _⟩
end
section
open Go.RowKit
variable{w w':AT}{ns:List Nd}
def iq(w:AT)(b off:Nat)(ns:List Nd):Prop:=∀j (h:j<ns.length),
 w.cell? ⟨b,off+j*3,none⟩=some (V ns[j].kd)/\w.cell? ⟨b,off+j*3+1,none⟩=some (V ns[j].val)/\w.cell? ⟨b,off+j*3+2,none⟩=some (sV ns[j].nm)
def iq.below{b off:Nat}(h:iq w b off ns)(H:Bl w w'):iq w' b off ns:=by intro j O;have⟨I,U,J⟩:=h j O;have Ja:=b_ I;exact⟨(H.cell Ja).trans I,(H.cell (p:=⟨b,off+j*3+1,none⟩) Ja).trans U,(H.cell (p:=⟨b,off+j*3+2,none⟩) Ja).trans J⟩
def a_(w:AT)(v:BY)(ns:List Nd):Prop:=∃a cap,v=.slice a ns.length cap/\ns.length<=cap/\cap<=9223372036854775807/\(0<ns.length->∃b off,a=some ⟨b,off,none⟩/\iq w b off ns)
def a_.below{v:BY}(h:a_ w v ns)(O:Bl w w'):a_ w' v ns:=by obtain⟨a,Jb,rfl,I,H,h⟩:=h;refine⟨a,Jb,rfl,I,H,λh0=>?_⟩;obtain⟨b,Ja,rfl,J⟩:=h h0;exact⟨b,Ja,rfl,J.below O⟩
def yO{t:IN}{x y z:BY}(h:Below (w.heap.size+1) (w.alloc (.cells #[x,y,z] t)) w'):
  w'.cell? ⟨w.heap.size,0,none⟩=some x/\w'.cell? ⟨w.heap.size,1,none⟩=some y/\w'.cell? ⟨w.heap.size,2,none⟩=some z:=by
 refine⟨?_,?_,?_⟩ <;> (rw[h.cell i_];simp)
def tY(v:BY)(ns:List Nd)(w:AT)(U:eG w)(hl:ns.length<=1048576)(I:a_ w v ns):
  Calls prog 19 #[v] w λe w'=>e=rW (.bool (oneB ns))/\Bl w w':=by
 obtain⟨a,Jn,rfl,Jr,Jl,I⟩:=I;have HC:=ah I;clear I;go_in;go_wp2;go_loopw[3,8] (λr i wr=>∃(k:Nat) (q:Int),k<=ns.length/\i=V k/\r=V q/\wholeTo (ns.take k) 0=some q/\Bl w wr) (λ_ i _=>ns.length-(RowKit.intOf i).toNat)
 case atStart=>exact⟨0,0,y_,rfl,rfl,rfl,r_⟩
 case round=>
  obtain⟨k,q,hk,rfl,rfl,Z,H⟩:=hrel;have Y:=ah Z;have Je:=li _ _ _ Z (Int.le_refl 0);have Js:q<=1048576:=by have:=Je.2;simp at this;omega
  have Jo:=Je.1;by_cases hlt:k<ns.length
  ·obtain⟨b,Jq,rfl,I⟩:=HC o_;have⟨d0,d1,X⟩:=(I.below H) k hlt;have O:Hid (eG wr):=U.below U.size H;have Jp:=U.size;have J:Hid _:=fE ns k q hlt Y;clear I U HC;generalize hn:ns[k]=n at d0 d1 X J;go_wp2_with fail;refine(B3 n _ (O.o.below O.o.size (aq _ _))).mono ?_;rintro e w1 ⟨rfl,Ja⟩;simp only[Bl,K9]at Ja;have Jh:=H.trans (((aq _ _).trans (Ja.mono o_)).mono H.size);cases hv:aD n
   ·go_wp2;go_ret;refine⟨aB (rF ns (k+1) ?_).symm,Jh⟩;rw[J.o,if_neg (by simp[hv])]
   have⟨e0,e1,e2⟩:=yO Ja;have Jc:Hid (eG w1):=O.o.below O.o.size ((aq _ _).trans (Ja.mono o_));have Jf:=fb hv;have Jm:=dC hv;go_wp2_with fail;refine(oK n _ Jc.o Jf).mono ?_;rintro e w2 ⟨rfl,Jg⟩;have Jb:=Ja.trans (Jg.mono (by have:=Ja.size;simp at this;omega));have Jd:=H.trans (((aq _ _).trans (Jb.mono o_)).mono H.size);have⟨f0,f1,f2⟩:=yO Jb;have Ji:Hid (eG w2):=Jc.o.below Jc.o.size Jg;clear e0 e1 e2 d0 d1 X;by_cases ha:q<arity n
   ·go_wp2;go_ret;refine⟨aB (rF ns (k+1) ?_).symm,Jd⟩;rw[J.o,if_neg o_]
   go_wp2_with fail;refine(oK n _ Ji.o Jf).mono ?_;rintro e w3 ⟨rfl,Jj⟩;have Jk:=Jd.trans (Jj.mono Jd.size);go_wp2;go_roundw
   case rel=>exact⟨k+1,q+1-arity n,o_,by go_num,by rw[show q+(1-arity n)=q+1-arity n by omega],by rw[J.o,if_pos ⟨hv,o_⟩],Jk⟩
   case measure=>exact D1
  go_wp2;go_ret;obtain rfl:k=ns.length:=(by omega);exact⟨aB (Bb ns q Y).symm,H⟩
end
section
open Go.RowKit
variable{w w':AT}
def EY{t u:IN}{H J U O I X Y y1 y2 y3 Z:BY}(h:Below (w.heap.size+1+1) ((w.alloc (.cells #[H,J,U,O,I,X] t)).alloc (.cells #[Y,y1,y2,y3,Z] u)) w'):
  (w'.cell? ⟨w.heap.size,0,none⟩=some H/\w'.cell? ⟨w.heap.size,1,none⟩=some J/\w'.cell? ⟨w.heap.size,2,none⟩=some U/\w'.cell? ⟨w.heap.size,3,none⟩=some O/\w'.cell? ⟨w.heap.size,4,none⟩=some I/\w'.cell? ⟨w.heap.size,5,none⟩=some X) /\
  (w'.cell? ⟨w.heap.size+1,0,none⟩=some Y/\w'.cell? ⟨w.heap.size+1,1,none⟩=some y1/\w'.cell? ⟨w.heap.size+1,2,none⟩=some y2/\w'.cell? ⟨w.heap.size+1,3,none⟩=some y3/\w'.cell? ⟨w.heap.size+1,4,none⟩=some Z):=by
 have e0:(⟨w.heap.size+1,0,none⟩:Addr)=⟨(w.alloc (.cells #[H,J,U,O,I,X] t)).heap.size,0,none⟩:=i_;refine⟨⟨?_,?_,?_,?_,?_,?_⟩,?_,?_,?_,?_,?_⟩ <;> (rw[h.cell (by first|(simp;done)|(simp;omega))];simp)
def mQ{a b:Obj}(h:Below (w.heap.size+1+1) ((w.alloc a).alloc b) w'):Bl w w':=
 ((aq _ _).alloc i_ _).trans (h.mono o_)
def eG.alls(h:eG w)(o:Obj):let U:=λ(j:Nat) b=>Bo (w.alloc o) 2 j (.bool b);let y:=true;let n:=false;U 5 y/\U 6 n/\U 7 n/\U 8 n/\U 9 n/\U 10 y/\U 11 n/\U 12 n/\U 13 n/\U 14 n/\U 15 y/\U 16 y/\U 17 n/\U 18 n/\U 19 n/\U 20 n/\U 21 n/\U 22 y/\U 23 y/\U 24 n/\U 25 n/\U 26 n/\U 27 y/\U 28 n/\U 29 n/\U 30 n/\U 31 n/\U 32 n/\U 33 n/\U 34 n/\U 35 n/\U 36 n/\U 37 n/\U 38 n/\U 39 n/\U 40 n/\U 41 n/\U 42 n/\U 43 n/\U 44 y:=by and_intros <;> exact h.stmtUp _ o_ o
theorem B5(s:St)(ve vf:BY)(w:AT)(hT:eG w)(Ji:s.e.length<=1048576)(Jj:s.f.length<=1048576)(he:a_ w ve s.e)(Z:a_ w vf s.f):
    Calls prog 117 #[.agg #[V s.kd,sV s.nm,ve,vf,V s.th,V s.el]] w λe w'=>e=rW (.bool (bB s))/\Bl w w':=by
  obtain⟨k,s,H,fs,t,l⟩:=s;simp only at Ji Jj he Z⊢;have HE:=ah he;have HF:=ah Z;obtain⟨ae,ce,rfl,-,-,-⟩:=he;obtain⟨af,cf,rfl,-,-,-⟩:=Z;by_cases hk:1<=k/\k<=8
  case neg=>
    have hs:bB ⟨k,s,H,fs,t,l⟩=false:=by have:decide (1<=k/\k<=8)=false:=(D4 hk);simp only[bB,this,Bool.false_and]
    rw[hs];by_cases h':1<=k
    all_goals
      go_in;go_wp2;go_ret;exact⟨rfl,r_.alloc n_ _⟩
  have Y:=ah hT;have Jf:=Y.o.size;have⟨c5,c6,c7,c8,c9,Jx,Xt,Xl,Xw,Ju,Xu,Xc,Xm,Xa,Xn,Yb,Xi,Xb,Xx,Xy,Js,Xq,Jz,Xf,Jr,Jv,Jt,Xp,Xo,Xs,Xr,Xd,Xh,Ya,Xj,Xe,Jy,Xk,J_,Jw⟩:=hT.alls (.cells #[V k,sV s,.slice ae H.length ce,.slice af fs.length cf,V t,V l] 254);clear hT;have h8:k=1\/k=2\/k=3\/k=4\/k=5\/k=6\/k=7\/k=8:=o_
  clear hk;rcases h8 with rfl|rfl|rfl|rfl|rfl|rfl|rfl|rfl;all_goals
    go_in;go_wp2_with fail;first
    | with_reducible refine(sB _ _).mono ?_
      rintro e w1 ⟨rfl,Jc⟩;generalize hn:cU s=bn
    | with_reducible refine(v_ _ _).mono ?_
      rintro e w1 ⟨rfl,Jc⟩;generalize hn:(s.toList == [])=bn
    simp only[Bl,K9]at Jc;have Je:=mQ Jc;have⟨⟨x0,x1,x2,x3,x4,x5⟩,O,J,X,I,U⟩:=EY Jc;cases bn
    · go_wp2
      go_ret;exact⟨aB (by simp only[bB];simp[hn]),Je⟩
    go_wp2_with fail;refine(tY _ H _ (Y.o.below Jf Je) Ji (HE.o.below Je)).mono ?_;rintro e w2 ⟨rfl,Jl⟩;have Ja:=Jc.trans (Jl.mono (by have:=Jc.size;simp at this;omega));clear x0 x1 x2 x3 x4 x5 O J X I U;have Jb:=mQ Ja;have⟨⟨x0,x1,x2,x3,x4,x5⟩,O,J,X,I,U⟩:=EY Ja;cases ho:oneB H
    · go_wp2
      go_ret;exact⟨aB (by simp only[bB];simp[hn,ho]),Jb⟩
    first
    | go_wp2_with fail
      with_reducible refine(tY _ fs _ (Y.o.below Jf Jb) Jj (HF.o.below Jb)).mono ?_
      rintro e w3 ⟨rfl,Jn⟩;have Jd:=Ja.trans (Jn.mono (by have:=Ja.size;simp at this;omega));clear x0 x1 x2 x3 x4 x5 O J X I U Jb;have Jb:=mQ Jd;have⟨⟨x0,x1,x2,x3,x4,x5⟩,O,J,X,I,U⟩:=EY Jd;cases hf1:oneB fs
      · go_wp2
        go_ret;exact⟨aB (by simp only[bB];simp[hn,ho,hf1]),Jb⟩
      have Jg:=ah hf1
    | cases hf1:((fs.length:Int) == 0)
      · have Jm:((fs.length:Int) != 0)=true:=by simp[bne,hf1]
        go_wp2;go_ret;refine⟨aB ?_,Jb⟩;have Jp:¬fs=[]:=(D4 hf1);simp only[bB];simp[hn,ho,Jp]
      have Jm:((fs.length:Int) != 0)=false:=(by simp[bne,hf1]);have Jg:Hid (fs.length=0):=by show fs.length=0;simpa using hf1
    obtain⟨m,hm⟩:∃m,H.length=m+1:=⟨H.length-1,Ft (o7 ho)⟩;obtain⟨X_,Xz,Jh,-,-,Jk⟩:=HE.o.below Jb;have⟨b,Xg,Jq,Jo⟩:=Jk o_;simp only[Value.slice.injEq]at Jh;have⟨d0,d1,d2⟩:=Jo m o_;have HL:Hid (lastKind H=(H[m]'(by omega)).kd):=by have e2:H.length-1=m:=o_;show lastKind H=_;simp only[lastKind,e2];rw[K3 o_]
    rw[Jh.1,Jq,hm]at x2;have e1:((m+1:Nat):Int)-1=(m:Int):=o_;have Xv:m<=1048576:=o_;generalize H[m].kd=q at d0 HL;cases hq1:(q == 4) <;> cases ht1:(t == 0)
    all_goals
      have HQ:Hid ((q=4↔(q == 4)=true)/\(t=0↔(t == 0)=true)):=(by show _/\_;simp);go_wp2;go_ret;refine⟨aB ?_,Jb⟩;simp only[bB];simp[hn,ho,Jg.o,HL.o,HQ.o.1,HQ.o.2,hq1,ht1]
end
section
open Go.RowKit
def Tv.bel{w w':AT}{S:DO}{v:BY}{r:List Nd}(h:Tv w S v r)(hS:∀B,S B->B<w.heap.size)(hb:Bl w w'):Tv w' S v r:=h.keep (λ_ h=>h) (λB hB=>hb.block B (hS B hB))
theorem JO{s:IF}(h:s.toList=[]):s=⟨#[]⟩:=by
 have I:∀(n:Nat) (i:Nat) (r:List UInt8),s.size-i=n->ByteArray.toList.loop s i r=[]->r=[]:=by
  intro n;induction n with
  | zero=>intro i r J h;rw[ByteArray.toList.loop,if_neg o_]at h;simpa using h
  | succ n ih=>intro i r J h;rw[ByteArray.toList.loop,if_pos o_]at h;have:=ih (i+1) _ o_ h;simp at this
 have H:s.size=0:=by rcases Nat.eq_zero_or_pos s.size with H|hp;exact H;rw[ByteArray.toList,ByteArray.toList.loop,if_pos hp]at h;have:=I _ _ _ rfl h;simp at this
 apply ByteArray.ext;exact Array.eq_empty_of_size_eq_zero H
def sC{n:Nd}(h:aD n=true):(n.kd=1\/n.kd=5\/n.kd=6\/n.kd=7\/n.kd=8\/n.kd=9->n.nm=⟨#[]⟩)/\(n.kd=2\/n.kd=3\/n.kd=5\/n.kd=8\/n.kd=9->n.val=0):=by
 unfold aD at h;refine⟨λhk=>?_,λhk=>?_⟩;apply JO;rcases hk with hk|hk|hk|hk|hk|hk <;> (simp[hk]at h;exact h.2)
 rcases hk with hk|hk|hk|hk|hk <;> (simp[hk]at h;exact h.1)
def j8(n:Nd)(ar:BY)(vs:Nat->BY):BY:=
 if n.kd=1 then .iface 100 (.agg #[V n.val])
 else if n.kd=2 then .iface 169 (.agg #[sV n.nm])
 else if n.kd=3 then .iface 171 (.agg #[sV n.nm,vs 0])
 else if n.kd=4 then .iface 173 (.agg #[sV n.nm,ar])
 else if n.kd=6 then .iface 98 (.agg #[V n.val,vs 0])
 else if n.kd=7 then .iface 104 (.agg #[V n.val,vs 0,vs 1])
 else if n.kd=8 then .iface 107 (.agg #[vs 0,vs 1])
 else if n.kd=9 then .iface 109 (.agg #[vs 0,vs 1])
 else .iface 176 (.agg #[])
def pP(n:Nd)(hn:aD n=true)(A:Nat)(hA:arity n=A)(S:DO)(ar:BY)(H:Nat->BY)(w:AT)(ha:gx w S ar A H)(hI:∀i,i<A->∃t x,H i=.iface t x):
  Calls prog 38 #[.agg #[V n.kd,V n.val,sV n.nm],ar] w λe w'=>e=rW (j8 n ar H)/\Bl w w':=by
 have Jd:=fb hn;obtain⟨U,X,nm⟩:=n;obtain⟨a,Jb,rfl,Jf,Je,hc⟩:=ha;simp only at Jd⊢;have hk:U=1\/U=2\/U=3\/U=4\/U=5\/U=6\/U=7\/U=8\/U=9:=o_;have I:∀o,Bl w (w.alloc o):=λo=>r_.alloc n_ o;rcases hk with rfl|rfl|rfl|rfl|rfl|rfl|rfl|rfl|rfl
 ·go_in;go_wp2;go_ret;exact⟨rfl,I _⟩
 ·go_in;go_wp2;go_ret;exact⟨rfl,I _⟩
 ·have e1:A=1:=by simp[arity]at hA;omega
  subst e1;obtain⟨B,rfl,-,Ja⟩:=hc o_;have Jc:=b_ (Ja 0 o_);have Y:∀o,Bo (w.alloc o) B 0 (H 0):=λo=>((I o).cell (p:=⟨B,0,none⟩) Jc).trans (Ja 0 o_);have⟨t0,x0,O⟩:=hI 0 o_;have J:Hid (j8 ⟨3,X,nm⟩ (rV B 1 Jb) H=.iface 171 (.agg #[sV nm,H 0])):=rfl;rw[J.o];rw[O]at Y⊢;go_in;go_wp2_with fail;go_quiet (fail)
  go_wp2;go_ret;exact⟨rfl,below_drewN (I _) _⟩
 ·have J:Hid (j8 ⟨4,X,nm⟩ (.slice a A Jb) H=.iface 173 (.agg #[sV nm,.slice a A Jb])):=rfl;rw[J.o];go_in;go_wp2;go_ret;exact⟨rfl,I _⟩
 ·go_in;go_wp2;go_ret;exact⟨rfl,I _⟩
 ·have e1:A=1:=by simp[arity]at hA;omega
  subst e1;obtain⟨B,rfl,-,Ja⟩:=hc o_;have Jc:=b_ (Ja 0 o_);have Y:∀o,Bo (w.alloc o) B 0 (H 0):=λo=>((I o).cell (p:=⟨B,0,none⟩) Jc).trans (Ja 0 o_);have⟨t0,x0,O⟩:=hI 0 o_;have J:Hid (j8 ⟨6,X,nm⟩ (rV B 1 Jb) H=.iface 98 (.agg #[V X,H 0])):=rfl;rw[J.o];rw[O]at Y⊢;go_in;go_wp2_with fail;go_quiet (fail)
  go_wp2;go_ret;exact⟨rfl,below_drewN (I _) _⟩
 all_goals
  have e1:A=2:=by simp[arity]at hA;omega
  subst e1;obtain⟨B,rfl,-,Ja⟩:=hc o_;have Jc:=b_ (Ja 0 o_);have Y:∀o,Bo (w.alloc o) B 0 (H 0):=λo=>((I o).cell (p:=⟨B,0,none⟩) Jc).trans (Ja 0 o_);have q1:∀o,Bo (w.alloc o) B 1 (H 1):=λo=>((I o).cell (p:=⟨B,1,none⟩) Jc).trans (Ja 1 o_);have⟨t0,x0,O⟩:=hI 0 o_;have⟨t1,x1,Z⟩:=hI 1 o_
 ·have J:Hid (j8 ⟨7,X,nm⟩ (rV B 2 Jb) H=.iface 104 (.agg #[V X,H 0,H 1])):=rfl;rw[J.o];rw[O]at Y;rw[Z]at q1;rw[O,Z];go_in;go_wp2_with fail;go_quiet (fail)
  go_wp2;go_ret;exact⟨rfl,below_drewN (I _) _⟩
 ·have J:Hid (j8 ⟨8,X,nm⟩ (rV B 2 Jb) H=.iface 107 (.agg #[H 0,H 1])):=rfl;rw[J.o];rw[O]at Y;rw[Z]at q1;rw[O,Z];go_in;go_wp2_with fail;go_quiet (fail)
  go_wp2;go_ret;exact⟨rfl,below_drewN (I _) _⟩
 have J:Hid (j8 ⟨9,X,nm⟩ (rV B 2 Jb) H=.iface 109 (.agg #[H 0,H 1])):=rfl;rw[J.o];rw[O]at Y;rw[Z]at q1;rw[O,Z];go_in;go_wp2_with fail;go_quiet (fail);go_wp2;go_ret;exact⟨rfl,below_drewN (I _) _⟩
def ND(n:Nd)(Y:aD n=true)(A:Nat)(J:arity n=A)(w:AT)(S:DO)(X:BY)(U:Nat->BY)(F:Nat->List Nd)(ha:gx w S X A U)(I:∀i,i<A->Tv w S (U i) (F i)):Tv w S (j8 n X U) (joinF F A++[n]):=by
 have Jc:=fb Y;have⟨Ja,Jb⟩:=sC Y;obtain⟨H,O,nm⟩:=n;simp only at Jc Ja Jb;have Z:H=1\/H=2\/H=3\/H=4\/H=5\/H=6\/H=7\/H=8\/H=9:=o_;rcases Z with rfl|rfl|rfl|rfl|rfl|rfl|rfl|rfl|rfl;obtain rfl:=Ja o_;have h:A=0:=by simp[arity]at J;omega
 subst h;exact .num O;obtain rfl:=Jb o_;have h:A=0:=by simp[arity]at J;omega
 subst h;exact .var nm;obtain rfl:=Jb o_;have h:A=1:=by simp[arity]at J;omega
 subst h;exact .index nm _ _ (I 0 o_);have h:O=A:=by simp[arity]at J;omega
 subst h;exact .call nm X A U F ha I;obtain rfl:=Ja o_;obtain rfl:=Jb o_;have h:A=0:=by simp[arity]at J;omega
 subst h;exact .inn;obtain rfl:=Ja o_;have h:A=1:=by simp[arity]at J;omega
 subst h;exact .un O _ _ (I 0 o_);obtain rfl:=Ja o_;have h:A=2:=by simp[arity]at J;omega
 subst h;exact .bin O _ _ _ _ (I 0 o_) (I 1 o_);obtain rfl:=Ja o_;obtain rfl:=Jb o_;have h:A=2:=by simp[arity]at J;omega
 subst h;exact .and _ _ _ _ (I 0 o_) (I 1 o_);obtain rfl:=Ja o_;obtain rfl:=Jb o_;have h:A=2:=by simp[arity]at J;omega
 subst h;exact .or _ _ _ _ (I 0 o_) (I 1 o_)
end
section
open Go.RowKit
variable{w w':AT}{S S':DO}{v:BY}{r ss:List St}
def aF(F:Nat->List St):Nat->List St
 | 0=>[]
 | A+1=>aF F A++F A
structure BvC (w:AT)(S:DO)(P:BY->List St->Prop):Prop where
 c_::
 decl:∀(s:St)x,s.kd=1->Tv w S x s.e->s.th=0->s.el=0->P (.iface 321 (.agg #[.string s.nm,x])) [s]
 set:∀(s:St)x,s.kd=2->Tv w S x s.e->s.th=0->s.el=0->P (.iface 322 (.agg #[.string s.nm,x])) [s]
 store:∀(s:St)x y,s.kd=3->Tv w S x s.e->Tv w S y s.f->s.th=0->s.el=0->P (.iface 324 (.agg #[.string s.nm,x,y])) [s]
 ifs:∀(s:St)x va vb A B(vs us:Nat->BY)(F H:Nat->List St),s.kd=4->Tv w S x s.e->gx w S va A vs->(∀i,i<A->P (vs i) (F i))->gx w S vb B us->(∀i,i<B->P (us i) (H i))->s.th=(aF F A).length->s.el=(aF H B).length->P (.iface 317 (.agg #[x,va,vb])) (s::aF F A++aF H B)
 whil:∀(s:St)x va A(vs:Nat->BY)(F:Nat->List St),s.kd=5->Tv w S x s.e->gx w S va A vs->(∀i,i<A->P (vs i) (F i))->s.th=(aF F A).length->s.el=0->P (.iface 319 (.agg #[x,va])) (s::aF F A)
 ret:∀(s:St)x,s.kd=6->Tv w S x s.e->s.th=0->s.el=0->P (.iface 292 (.agg #[x])) [s]
 out:∀(s:St)x,s.kd=7->Tv w S x s.e->s.th=0->s.el=0->P (.iface 325 (.agg #[x])) [s]
 call:∀(s:St)x,s.kd=8->Tv w S x s.e->s.th=0->s.el=0->P (.iface 326 (.agg #[x])) [s]
structure Bv (w:AT)(S:DO)(a0:BY)(a1:List St):Prop where
 c_::
 f_:∀P,BvC w S P->P a0 a1
theorem Bv.C{w:AT}{S:DO}:BvC w S (Bv w S):=⟨λs x q0 q1 q2 q3=>⟨λP h=>h.decl s x q0 q1 q2 q3⟩,
 λs x q0 q1 q2 q3=>⟨λP h=>h.set s x q0 q1 q2 q3⟩,
 λs x y q0 q1 q2 q3 q4=>⟨λP h=>h.store s x y q0 q1 q2 q3 q4⟩,
 λs x va vb A B vs us F H q0 q1 q2 q3 q4 q5 q6 q7=>⟨λP h=>h.ifs s x va vb A B vs us F H q0 q1 q2 (λi r0=>(q3 i r0).f_ P h) q4 (λi r0=>(q5 i r0).f_ P h) q6 q7⟩,
 λs x va A vs F q0 q1 q2 q3 q4 q5=>⟨λP h=>h.whil s x va A vs F q0 q1 q2 (λi r0=>(q3 i r0).f_ P h) q4 q5⟩,
 λs x q0 q1 q2 q3=>⟨λP h=>h.ret s x q0 q1 q2 q3⟩,
 λs x q0 q1 q2 q3=>⟨λP h=>h.out s x q0 q1 q2 q3⟩,
 λs x q0 q1 q2 q3=>⟨λP h=>h.call s x q0 q1 q2 q3⟩⟩
abbrev Bv.decl {w S}:=(Bv.C:BvC w S _).decl
abbrev Bv.set {w S}:=(Bv.C:BvC w S _).set
abbrev Bv.store {w S}:=(Bv.C:BvC w S _).store
abbrev Bv.ifs {w S}:=(Bv.C:BvC w S _).ifs
abbrev Bv.whil {w S}:=(Bv.C:BvC w S _).whil
abbrev Bv.ret {w S}:=(Bv.C:BvC w S _).ret
abbrev Bv.out {w S}:=(Bv.C:BvC w S _).out
abbrev Bv.call {w S}:=(Bv.C:BvC w S _).call
theorem Bv_i{w:AT}{S:DO}{M:∀(a0:BY)(a1:List St),Bv w S a0 a1->Prop}
 (decl:∀(s:St)x,s.kd=1->Tv w S x s.e->s.th=0->s.el=0->∀t,M (.iface 321 (.agg #[.string s.nm,x])) [s] t)
 (set:∀(s:St)x,s.kd=2->Tv w S x s.e->s.th=0->s.el=0->∀t,M (.iface 322 (.agg #[.string s.nm,x])) [s] t)
 (store:∀(s:St)x y,s.kd=3->Tv w S x s.e->Tv w S y s.f->s.th=0->s.el=0->∀t,M (.iface 324 (.agg #[.string s.nm,x,y])) [s] t)
 (ifs:∀(s:St)x va vb A B(vs us:Nat->BY)(F H:Nat->List St),s.kd=4->Tv w S x s.e->gx w S va A vs->∀q3:∀i,i<A->Bv w S (vs i) (F i),gx w S vb B us->∀q5:∀i,i<B->Bv w S (us i) (H i),s.th=(aF F A).length->s.el=(aF H B).length->(∀ i (r0 : i<A),M (vs i) (F i) (q3 i r0))->(∀ i (r0 : i<B),M (us i) (H i) (q5 i r0))->∀t,M (.iface 317 (.agg #[x,va,vb])) (s::aF F A++aF H B) t)
 (whil:∀(s:St)x va A(vs:Nat->BY)(F:Nat->List St),s.kd=5->Tv w S x s.e->gx w S va A vs->∀q3:∀i,i<A->Bv w S (vs i) (F i),s.th=(aF F A).length->s.el=0->(∀ i (r0 : i<A),M (vs i) (F i) (q3 i r0))->∀t,M (.iface 319 (.agg #[x,va])) (s::aF F A) t)
 (ret:∀(s:St)x,s.kd=6->Tv w S x s.e->s.th=0->s.el=0->∀t,M (.iface 292 (.agg #[x])) [s] t)
 (out:∀(s:St)x,s.kd=7->Tv w S x s.e->s.th=0->s.el=0->∀t,M (.iface 325 (.agg #[x])) [s] t)
 (call:∀(s:St)x,s.kd=8->Tv w S x s.e->s.th=0->s.el=0->∀t,M (.iface 326 (.agg #[x])) [s] t)
 {a0:BY}{a1:List St}(t:Bv w S a0 a1):M a0 a1 t:=
 (t.f_ (λa0 a1=>∃z_,M a0 a1 z_) ⟨λs x q0 q1 q2 q3=>⟨.decl s x q0 q1 q2 q3,decl s x q0 q1 q2 q3 _⟩,
 λs x q0 q1 q2 q3=>⟨.set s x q0 q1 q2 q3,set s x q0 q1 q2 q3 _⟩,
 λs x y q0 q1 q2 q3 q4=>⟨.store s x y q0 q1 q2 q3 q4,store s x y q0 q1 q2 q3 q4 _⟩,
 λs x va vb A B vs us F H q0 q1 q2 q3 q4 q5 q6 q7=>⟨.ifs s x va vb A B vs us F H q0 q1 q2 (λi r0=>(q3 i r0).1) q4 (λi r0=>(q5 i r0).1) q6 q7,ifs s x va vb A B vs us F H q0 q1 q2 _ q4 _ q6 q7 (λi r0=>(q3 i r0).2) (λi r0=>(q5 i r0).2) _⟩,
 λs x va A vs F q0 q1 q2 q3 q4 q5=>⟨.whil s x va A vs F q0 q1 q2 (λi r0=>(q3 i r0).1) q4 q5,whil s x va A vs F q0 q1 q2 _ q4 q5 (λi r0=>(q3 i r0).2) _⟩,
 λs x q0 q1 q2 q3=>⟨.ret s x q0 q1 q2 q3,ret s x q0 q1 q2 q3 _⟩,
 λs x q0 q1 q2 q3=>⟨.out s x q0 q1 q2 q3,out s x q0 q1 q2 q3 _⟩,
 λs x q0 q1 q2 q3=>⟨.call s x q0 q1 q2 q3,call s x q0 q1 q2 q3 _⟩⟩).2
theorem Bv.keep(h:Bv w S v r)(J:∀B,S B->S' B)(I:∀B,S B->w'.heap[B]? =w.heap[B]?):Bv w' S' v r:=by
 induction h using Bv_i with
 | decl s x h1 h2 h3 h4=>exact .decl s x h1 (h2.keep J I) h3 h4
 | set s x h1 h2 h3 h4=>exact .set s x h1 (h2.keep J I) h3 h4
 | store s x y h1 h2 h3 h4 h5=>exact .store s x y h1 (h2.keep J I) (h3.keep J I) h4 h5
 | ifs s x va vb A B vs us F H h1 h2 h3 h4 h5 h6 h7 h8 ih1 ih2=>exact .ifs s x va vb A B vs us F H h1 (h2.keep J I) (h3.keep J I) ih1 (h5.keep J I) ih2 h7 h8
 | whil s x va A vs F h1 h2 h3 h4 h5 h6 ih=>exact .whil s x va A vs F h1 (h2.keep J I) (h3.keep J I) ih h5 h6
 | ret s x h1 h2 h3 h4=>exact .ret s x h1 (h2.keep J I) h3 h4
 | out s x h1 h2 h3 h4=>exact .out s x h1 (h2.keep J I) h3 h4
 | call s x h1 h2 h3 h4=>exact .call s x h1 (h2.keep J I) h3 h4
def Bv.bel(h:Bv w S v r)(hS:∀B,S B->B<w.heap.size)(hb:Bl w w'):Bv w' S v r:=h.keep (λ_ h=>h) (λB hB=>hb.block B (hS B hB))
def Bv.isI(h:Bv w S v r):∃t x,v=.iface t x:=by cases h using Bv_i <;> exact⟨_,_,rfl⟩
def Bk(w:AT)(S:DO)(v:BY)(ss:List St):Prop:=∃(A:Nat) (vs:Nat->BY) (F:Nat->List St),gx w S v A vs/\(∀i,i<A->Bv w S (vs i) (F i))/\ss=aF F A
def Bk.keep(h:Bk w S v ss)(I:∀B,S B->S' B)(H:∀B,S B->w'.heap[B]? =w.heap[B]?):Bk w' S' v ss:=by obtain⟨A,J,F,O,h2,h3⟩:=h;exact⟨A,J,F,O.keep I H,λi hi=>(h2 i hi).keep I H,h3⟩
def Bk.bel(h:Bk w S v ss)(hS:∀B,S B->B<w.heap.size)(hb:Bl w w'):Bk w' S v ss:=h.keep (λ_ h=>h) (λB hB=>hb.block B (hS B hB))
end
section
variable{r b:List St}{w:AT}{S:DO}{v:BY}{s:St}
def sD{i j:Nat}(h:i+j<=r.length):(r++b).take i=r.take i/\((r++b).drop i).take j=(r.drop i).take j/\(r++b).drop (i+j)=r.drop (i+j)++b/\((r++b).take (i+j)).drop i=(r.take (i+j)).drop i:=by refine⟨take_append_of_le_length o_,?_,drop_append_of_le_length h,?_⟩;rw[drop_append_of_le_length o_,take_append_of_le_length Do];rw[take_append_of_le_length h]
theorem yP(N:Nat):∀a b:List St,a.length<=N->cD a=true->cD b=true->cD (a++b)=true:=by
 induction N with
 | zero=>intro a b I H h;have:a=[]:=K1 o_;subst this;simpa using h
 | succ N ih=>
  intro a b I H h;cases a with
  | nil=>simpa using h
  | cons s r=>rw[fitB_cons]at H;simp only[Io,K0]at H;obtain⟨⟨O,p2,J,p4⟩,Y,U,f3⟩:=H;simp only[l_c]at I;have⟨X,e2,Z,e4⟩:=sD (r:=r) (b:=b) (i:=s.th.toNat) (j:=s.el.toNat) o_;rw[cons_append,fitB_cons,X,Z,e4];simp only[Io,K0];exact⟨⟨O,by simp;omega,J,by simp;omega⟩,Y,U,ih _ _ Do f3 h⟩
theorem jf{F:Nat->List St}:∀A,(∀i,i<A->cD (F i)=true)->cD (aF F A)=true
 | 0,_=>rfl
 | A+1,h=>by simp only[aF];exact yP _ _ _ n_ (jf A (λi hi=>h i o_)) (h A o_)
def Bv.pos(h:Bv w S v r):0<r.length:=by cases h using Bv_i <;> simp
theorem gq{F:Nat->List St}:∀A,(∀i,i<A->0<(F i).length)->A<=(aF F A).length
 | 0,_=>y_
 | A+1,h=>by
  have:=gq A (λi hi=>h i o_)
  have:=h A o_
  simp only[aF,l_a];omega
def tZ{a:List St}(O:s.th=a.length)(h2:s.el=b.length)(I:cD a=true)(J:cD b=true):cD (s::a++b)=true:=by rw[cons_append,fitB_cons];have H:s.th.toNat=a.length:=o_;have h:s.el.toNat=b.length:=o_;rw[H,h];simp only[Io,K0];refine⟨⟨o_,by simp;omega,o_,by simp;omega⟩,D4 I,?_,?_⟩;rw[take_of_length_le i_,drop_left];exact J;rw[drop_of_length_le i_];rfl
def kJ{s:St}(h1:s.th=0)(h2:s.el=0):cD [s]=true:= by have:= tZ (s:= s) (a:= []) (b:= []) (D4 h1) (D4 h2) rfl rfl;simpa using this
theorem Bv.fit{w:AT}{S:Nat -> Prop}{v:BY}{r:List St}(h:Bv w S v r):cD r=true:= by
  induction h using Bv_i with
  | decl s x h1 h2 h3 h4=>exact kJ h3 h4
  | set s x h1 h2 h3 h4=>exact kJ h3 h4
  | store s x y h1 h2 h3 h4 h5=>exact kJ h4 h5
  | ifs s x va vb A B vs us F H h1 h2 h3 h4 h5 h6 h7 h8 ih1 ih2=>exact tZ h7 h8 (jf A ih1) (jf B ih2)
  | whil s x va A vs F h1 h2 h3 h4 h5 h6 ih=>have:= tZ (s:= s) (a:= aF F A) (b:= []) h5 (D4 h6) (jf A ih) rfl;simpa using this
  | ret s x h1 h2 h3 h4=>exact kJ h3 h4
  | out s x h1 h2 h3 h4=>exact kJ h3 h4
  | call s x h1 h2 h3 h4=>exact kJ h3 h4
end
section
open Go.RowKit
variable{w w':AT}{v:BY}{l:List Int}{N n:Nat}{xs:List BY}
def Ints(w:AT)(v:BY)(l:List Int):Prop:=∃a cap,v=.slice a l.length cap/\(0<l.length->∃b,a=some ⟨b,0,none⟩/\∀j (h:j<l.length),w.cell? ⟨b,j,none⟩=some (V l[j]))
def Ints.below(h:Ints w v l)(I:Bl w w'):Ints w' v l:=by obtain⟨a,Ja,rfl,h⟩:=h;refine⟨a,Ja,rfl,λh0=>?_⟩;obtain⟨b,rfl,H⟩:=h h0;exact⟨b,rfl,λj hj=>(I.cell (p:=⟨b,j,none⟩) (b_ (H j hj))).trans (H j hj)⟩
def pQ(h:w.ownsRow N 2 1 v l.length (l.map (Value.int .i64))):Ints w v l:=by
 have H:=h;obtain⟨J,h⟩:=h;rcases h with⟨rfl,I⟩|⟨g,Ja,Jb,rfl,U,O,Jf,Jd,Je,Jc⟩;exact⟨none,0,by rw[I],λh=>absurd h o_⟩;refine⟨_,Ja,rfl,λ_=>⟨g,rfl,λj hj=>?_⟩⟩;have:=H.cells (g:=g) rfl j (V l[j]) (by simp[hj]);have e:(⟨g,0,none⟩:Addr).add j=⟨g,j,none⟩:=by simp only[Addr.add];split <;> simp_all
 rw[e]at this;exact this
def B7{w w':AT}{N:Nat}{v:BY}{n:Nat}{xs:List BY}(h:w.ownsRow N 2 1 v n xs)(hb:∀ g, N ≤ g -> g<w.heap.size -> w'.heap[g]? =w.heap[g]?):w'.ownsRow N 2 1 v n xs:= by
  have⟨g1, g2⟩:= h;refine⟨g1, ?_⟩;rcases g2 with g2|⟨g, cap, cur, rfl, g3, g4, g5⟩
  exact .inl g2
  · refine .inr ⟨g, cap, cur, rfl, g3, ?_, g5⟩
    rw[hb g g3 (Array.getElem?_eq_some_iff.1 g4).1];exact g4
def yQ{w w':AT}{N:Nat}{v:BY}{n:Nat}{xs:List BY}(h:w.ownsRow N 2 1 v n xs)(hb:Bl w w'):w'.ownsRow N 2 1 v n xs:= B7 h λg _ hg=>hb.block g hg
end
section
open Go.RowKit
variable{l a b:List St}{s:St}
structure Ca (l:List St) (s:St) (a b:List St):Prop where
 is:l=s::(a++b)
 th:s.th=a.length
 el:s.el=b.length
def Ca.take(h:Ca l s a b)(Ja:List St):(a++b++Ja).take s.th.toNat=a/\((a++b++Ja).drop s.th.toNat).take s.el.toNat=b/\(a++b++Ja).drop (s.th.toNat+s.el.toNat)=Ja:=by
 have I:s.th.toNat=a.length:=by rw[h.th];simp
 have H:s.el.toNat=b.length:=by rw[h.el];simp
 rw[I,H];refine⟨i_,i_,?_⟩;rw[<-l_a];simp
def Ca.tidy(h:Ca l s a b)(Ja:List St):aN (l++Ja)=if jV (ch s (aN a) (aN b))=true then ch s (aN a) (aN b)else ch s (aN a) (aN b)++aN Ja:=by
 have e:l++Ja=s::(a++b++Ja):=by rw[h.is];simp
 have⟨J,I,H⟩:=h.take Ja;rw[e,lr];unfold pi;rw[J,I,H]
def Ca.ends(h:Ca l s a b)(Ja:List St):jV (l++Ja)=(decide (s.kd=6) || jV Ja):=by
 have e:l++Ja=s::(a++b++Ja):=by rw[h.is];simp
 have⟨J,I,H⟩:=h.take Ja;rw[e,endsB_cons,H]
theorem Bv.one{w:AT}{S:DO}{v:BY}(h:Bv w S v l):∃s a b,Ca l s a b:=by
 cases h using Bv_i with
 | decl s x h1 h2 h3 h4=>exact⟨s,[],[],rfl,h3,h4⟩
 | set s x h1 h2 h3 h4=>exact⟨s,[],[],rfl,h3,h4⟩
 | store s x y h1 h2 h3 h4 h5=>exact⟨s,[],[],rfl,h4,h5⟩
 | ifs s x va vb A B vs us F H h1 h2 h3 h4 h5 h6 h7 h8=>exact⟨s,_,_,rfl,h7,h8⟩
 | whil s x va A vs F h1 h2 h3 h4 h5 h6=>exact⟨s,aF F A,[],i_,h5,h6⟩
 | ret s x h1 h2 h3 h4=>exact⟨s,[],[],rfl,h3,h4⟩
 | out s x h1 h2 h3 h4=>exact⟨s,[],[],rfl,h3,h4⟩
 | call s x h1 h2 h3 h4=>exact⟨s,[],[],rfl,h3,h4⟩
end
section
open Go.RowKit
variable{w w':AT}
def NE{t:IN}{H J U O I X:BY}(h:Below (w.heap.size+1) (w.alloc (.cells #[H,J,U,O,I,X] t)) w'):
  w'.cell? ⟨w.heap.size,0,none⟩=some H/\w'.cell? ⟨w.heap.size,1,none⟩=some J/\w'.cell? ⟨w.heap.size,2,none⟩=some U/\w'.cell? ⟨w.heap.size,3,none⟩=some O/\w'.cell? ⟨w.heap.size,4,none⟩=some I/\w'.cell? ⟨w.heap.size,5,none⟩=some X:=by
 refine⟨?_,?_,?_,?_,?_,?_⟩ <;> (rw[h.cell i_];simp)
def aR{a:Obj}(h:Below (w.heap.size+1) (w.alloc a) w'):Bl w w':=
 (aq _ _).trans (h.mono o_)
end
section
open Go.RowKit
variable{w w':AT}{b off cap:Nat}{ss:List St}{a:Option Addr}
def mR(w:AT)(b off:Nat)(ss:List St):Prop:=∀j (h:j<ss.length),∃ve vf,
 (w.cell? ⟨b,off+j*6,none⟩=some (V ss[j].kd)/\w.cell? ⟨b,off+j*6+1,none⟩=some (sV ss[j].nm)/\w.cell? ⟨b,off+j*6+2,none⟩=some ve/\w.cell? ⟨b,off+j*6+3,none⟩=some vf/\w.cell? ⟨b,off+j*6+4,none⟩=some (V ss[j].th)/\w.cell? ⟨b,off+j*6+5,none⟩=some (V ss[j].el))/\a_ w ve ss[j].e/\a_ w vf ss[j].f
def mR.below(h:mR w b off ss)(H:Bl w w'):mR w' b off ss:=by intro j Y;have⟨U,vf,⟨I,c1,J,Z,c4,c5⟩,X,O⟩:=h j Y;have Ja:=b_ I;exact⟨U,vf,⟨(H.cell (p:=⟨b,off+j*6,none⟩) Ja).trans I,(H.cell (p:=⟨b,off+j*6+1,none⟩) Ja).trans c1,(H.cell (p:=⟨b,off+j*6+2,none⟩) Ja).trans J,(H.cell (p:=⟨b,off+j*6+3,none⟩) Ja).trans Z,(H.cell (p:=⟨b,off+j*6+4,none⟩) Ja).trans c4,(H.cell (p:=⟨b,off+j*6+5,none⟩) Ja).trans c5⟩,X.below H,O.below H⟩
def be(w:AT)(v:BY)(ss:List St):Prop:=∃a cap,v=.slice a ss.length cap/\ss.length<=cap/\cap<=9223372036854775807/\(0<ss.length->∃b off,a=some ⟨b,off,none⟩/\mR w b off ss)
def be.below{v:BY}(h:be w v ss)(O:Bl w w'):be w' v ss:=by obtain⟨a,Jb,rfl,I,H,h⟩:=h;refine⟨a,Jb,rfl,I,H,λh0=>?_⟩;obtain⟨b,Ja,rfl,J⟩:=h h0;exact⟨b,Ja,rfl,J.below O⟩
def mR.up(h:mR w b off ss)(j:Nat)(hj:j<ss.length):∃ve vf,((∀o,Bo (w.alloc o) b (off+j*6) (V ss[j].kd))/\(∀o,Bo (w.alloc o) b (off+j*6+1) (sV ss[j].nm))/\(∀o,Bo (w.alloc o) b (off+j*6+2) ve)/\(∀o,Bo (w.alloc o) b (off+j*6+3) vf)/\(∀o,Bo (w.alloc o) b (off+j*6+4) (V ss[j].th))/\(∀o,Bo (w.alloc o) b (off+j*6+5) (V ss[j].el))) /\
  (Bo w b (off+j*6) (V ss[j].kd)/\Bo w b (off+j*6+1) (sV ss[j].nm)/\Bo w b (off+j*6+2) ve/\Bo w b (off+j*6+3) vf/\Bo w b (off+j*6+4) (V ss[j].th)/\Bo w b (off+j*6+5) (V ss[j].el))/\a_ w ve ss[j].e/\a_ w vf ss[j].f:=by
 have⟨ve,vf,⟨I,Y,J,O,X,U⟩,he,Z⟩:=h j hj;have Ja:=b_ I;have H:∀o,Bl w (w.alloc o):=λo=>r_.alloc n_ o;exact⟨ve,vf,⟨λo=>((H o).cell (p:=⟨b,off+j*6,none⟩) Ja).trans I,λo=>((H o).cell (p:=⟨b,off+j*6+1,none⟩) Ja).trans Y,λo=>((H o).cell (p:=⟨b,off+j*6+2,none⟩) Ja).trans J,λo=>((H o).cell (p:=⟨b,off+j*6+3,none⟩) Ja).trans O,λo=>((H o).cell (p:=⟨b,off+j*6+4,none⟩) Ja).trans X,λo=>((H o).cell (p:=⟨b,off+j*6+5,none⟩) Ja).trans U⟩,⟨I,Y,J,O,X,U⟩,he,Z⟩
def be.cut(h:be w (.slice a ss.length cap) ss)(H I:Nat)(h1:H<=I)(h2:I<=ss.length):
  be w (.slice (if cap=H then a else a.map (·.add (H*6))) (I-H) (cap-H)) ((ss.take I).drop H):=by
 obtain⟨a',Jc,J,hl,Z,h⟩:=h;simp only[Value.slice.injEq,true_and]at J;obtain⟨rfl,rfl⟩:=J;refine⟨if cap=H then a else a.map (·.add (H*6)),cap-H,by simp[Nat.min_eq_left h2],by simp[Nat.min_eq_left h2];omega,o_,λh0=>?_⟩;simp only[length_drop,length_take,Nat.min_eq_left h2]at h0;obtain⟨b,Ja,rfl,Y⟩:=h o_;refine⟨b,Ja+H*6,?_,λj hj=>?_⟩;rw[if_neg o_];simp[Addr.add];simp only[length_drop,length_take,Nat.min_eq_left h2]at hj;have⟨X,vf,Jb,J,O⟩:=Y (H+j) o_;have e:((ss.take I).drop H)[j]'Do=ss[H+j]'(by omega):=i_;rw[e];refine⟨X,vf,?_,J,O⟩;have U:Ja+H*6+j*6=Ja+(H+j)*6:=o_;rw[U];exact Jb
def be.head(h:be w (.slice a ss.length cap) ss)(H:Nat)(h2:H<=ss.length):be w (.slice a H cap) (ss.take H):=by
 have:=h.cut 0 H y_ h2
 have e:(if cap=0 then a else a.map (·.add (0*6)))=a:=by split;rfl;cases a <;> simp[Addr.add]
 rw[e]at this;simpa using this
def ud(a:Option Addr)(n cap h H:Nat)(O:h<=H)(h2:H<=n)(h3:n<=cap):∀w:AT,(Instr.slice 141 (.slice a n cap) (some (V h)) (some (V ((h:Int)+((H-h:Nat):Int)))) none).run prog w=.ok (.slice (if cap=h then a else a.map (·.add (h*6))) (H-h) (cap-h)) w:=by intro w;have I:prog.elem 141=254:=k_;have J:(sizeOf 254).run prog w=.ok 6 w:=k_;rw[run_slice_lh w 141 a n cap (by rw[I];exact underlying141) .i64 .i64 _ _ o_ o_ o_,I,J];simp only[Result.andThen,sliced,Int.toNat_natCast];have e:(((h:Int)+((H-h:Nat):Int))).toNat=H:=o_;rw[e]
def sE(a:Option Addr)(n cap h:Nat)(h2:h<=n)(h3:n<=cap)(I:Int)(Ja:I=h):∀w:AT,(Instr.slice 141 (.slice a n cap) (some (V I)) none none).run prog w=.ok (.slice (if cap=h then a else a.map (·.add (h*6))) (n-h) (cap-h)) w:=by intro w;subst Ja;have H:prog.elem 141=254:=k_;have J:(sizeOf 254).run prog w=.ok 6 w:=k_;rw[run_slice_l w 141 a n cap (by rw[H];exact underlying141) .i64 _ o_ o_,H,J];simp only[Result.andThen,sliced,Int.toNat_natCast]
def lenOf:BY->Nat|.slice _ n _=>n|_=>0
theorem Ii(n:Nat):∀(v:BY) (ss:List St) (w:AT) (hn:ss.length<=n) (hl:ss.length<=1048576) (hc:be w v ss),
  Calls prog 118 #[v] w λe w'=>e=rW (.bool (cD ss))/\Bl w w':=by
 induction n with
 | zero=>intro v ss w hn hl hc;have:ss=[]:=K1 o_;subst this;obtain⟨a,Jc,rfl,Jl,Ji,hc⟩:=hc;simp only[l_n]at*;clear hc;go_in;go_wp2_with fail;refine wp_loop_rounds 1 ?_;rw[rounds_succ];go_wp2;go_ret;exact⟨rfl,r_⟩
 | succ n ih=>
 intro v ss w hn hl hc;have⟨IH,HN⟩:=h2 ih hc;obtain⟨a,Jc,rfl,Jl,Ji,hc⟩:=hc;clear hc ih;go_in;go_wp2;go_loopw[0] (λv wr=>∃O,O.length<=ss.length/\be wr v O/\cD ss=cD O/\Bl w wr) (λv _=>lenOf v)
 case atStart=>exact⟨ss,n_,HN,rfl,r_⟩
 case round=>
  obtain⟨O,Xa,Jw,Jf,U⟩:=hrel;obtain⟨a,Jc,rfl,Jl,Ji,hc⟩:=Jw;have HF:=ah Jf;clear Jf;cases O with
  | nil=>simp only[l_n];go_wp2;go_ret;exact⟨aB HF.o.symm,U⟩
  | cons s r=>
   obtain⟨b,off,rfl,hs⟩:=hc i_;have⟨ve,vf,⟨g0,g1,g2,g3,g4,g5⟩,⟨c0,c1,Z,c3,c4,c5⟩,he,hf⟩:=hs.up 0 i_;simp only[Nat.zero_mul,Nat.add_zero,getElem_cons_zero]at c0 c1 Z c3 c4 c5 g0 g1 g2 g3 g4 g5;have Je:be wr (.slice (some ⟨b,off,none⟩) (s::r).length Jc) (s::r):=⟨_,_,rfl,Jl,Ji,λ_=>⟨b,off,rfl,hs⟩⟩;have Ja:be wr (.slice (if Jc=1 then some ⟨b,off,none⟩else some ⟨b,off+6,none⟩) r.length (Jc-1)) r:=by
    have:=Je.cut 1 (s::r).length i_ n_
    simpa[Addr.add]using this
   simp only[l_c]at*;have Y:=ah Ja;have h1:(1:Int)<=(r.length:Int)+1:=o_;have J:Hid (cD ss=(decide (0<=s.th/\s.th<=r.length/\0<=s.el/\s.el<=r.length-s.th)&&(cD (r.take s.th.toNat)&&(cD ((r.take (s.th.toNat+s.el.toNat)).drop s.th.toNat)&&cD (r.drop (s.th.toNat+s.el.toNat)))))):=by show _=_;rw[HF.o,fitB_cons]
   obtain⟨a2,k2,rfl,-,-,-⟩:=he;obtain⟨a3,k3,rfl,-,-,-⟩:=hf;clear hs hc Je Ja HF;generalize s.kd=kI at c0 g0;generalize s.nm=nI at c1 g1;generalize s.th=tI at c4 g4 J;generalize s.el=lI at c5 g5 J;generalize (s::r)[0].e.length=n2 at Z g2;generalize (s::r)[0].f.length=n3 at c3 g3;go_wp2_with fail;go_region;generalize (if Jc=1 then some ({block:=b,off:=off,spot:=none}:Addr)else some {block:=b,off:=off+6,spot:=none})=a1 at Y⊢;generalize hk1:Jc-1=k1 at Y⊢;have Jx:r.length<=k1:=o_;have Jv:k1<=9223372036854775807:=o_;clear hk1 c0 c1 Z c3 c4 c5 g0 g1 g2 g3 g4 g5 h1;have Jd:Bl w (wr.alloc (.cells #[V kI,sV nI,.slice a2 n2 k2,.slice a3 n3 k3,V tI,V lI] 254)).drew:=(U.alloc U.size _).drew;by_cases q1:tI<0
   ·go_wp2;go_ret;exact⟨aB (by rw[J.o,decide_eq_false o_];rfl),Jd⟩
   by_cases q2:(r.length:Int)<tI
   ·go_wp2;go_ret;exact⟨aB (by rw[J.o,decide_eq_false o_];rfl),Jd⟩
   by_cases q3:lI<0
   ·go_wp2;go_ret;exact⟨aB (by rw[J.o,decide_eq_false o_];rfl),Jd⟩
   by_cases q4:(r.length:Int)-tI<lI
   ·go_wp2;go_ret;exact⟨aB (by rw[J.o,decide_eq_false o_];rfl),Jd⟩
   obtain⟨H,rfl⟩:=Int.eq_ofNat_of_zero_le (show 0<=tI by omega);obtain⟨I,rfl⟩:=Int.eq_ofNat_of_zero_le (show 0<=lI by omega);have Jz:H<=r.length:=o_;have Jy:H+I<=r.length:=o_;have Jg:Hid (cD ss=(cD (r.take H)&&(cD ((r.take (H+I)).drop H)&&cD (r.drop (H+I))))):=by show _=_;rw[J.o,decide_eq_true o_];simp
   clear J;go_wp2_with fail;have Jp:Bl wr (wr.alloc (.cells #[V kI,sV nI,.slice a2 n2 k2,.slice a3 n3 k3,V H,V I] 254)).drew:=(aq _ _).drew;refine(IH.o _ (r.take H) _ Do Do ((Y.o.below Jp).head H o_)).mono ?_;rintro e w1 ⟨rfl,Jr⟩;have Jb:Below (wr.heap.size+1) (wr.alloc (.cells #[V kI,sV nI,.slice a2 n2 k2,.slice a3 n3 k3,V H,V I] 254)) w1:=(r_.drew).trans (Jr.mono i_);have Jh:=U.trans ((aR Jb).mono U.size);have⟨x0,x1,x2,x3,x4,x5⟩:=NE Jb;clear Jp Jr Jd;cases hf1:cD (r.take H)
   ·go_wp2;go_ret;exact⟨aB (by rw[Jg.o,hf1];rfl),Jh⟩
   obtain⟨a5,k5,Ju,Jo⟩:∃a5 k5,(∀w:AT,(Instr.slice 141 (.slice a1 r.length k1) (some (V H)) (some (V ((H:Int)+(I:Int)))) none).run prog w=.ok (.slice a5 I k5) w)/\be wr (.slice a5 I k5) ((r.take (H+I)).drop H):=by have h:=ud a1 r.length k1 H (H+I) o_ o_ o_;have X:=Y.o.cut H (H+I) o_ o_;rw[show H+I-H=I by omega]at h X;exact⟨_,_,h,X⟩
   have Jt:=ah Jo;clear Jo;go_wp2_with fail;have Jj:Bl wr w1:=aR Jb;refine(IH.o _ ((r.take (H+I)).drop H) _ Do Do (Jt.o.below Jj)).mono ?_;rintro e w2 ⟨rfl,Jq⟩;have Jn:=Jh.trans (Jq.mono Jh.size);have Jk:=Jj.trans (Jq.mono Jj.size);clear x0 x1 x2 x3 x4 x5 Ju;cases hf2:cD ((r.take (H+I)).drop H)
   ·go_wp2;go_ret;exact⟨aB (by rw[Jg.o,hf1,hf2];rfl),Jn⟩
   obtain⟨a6,k6,J_,Jm⟩:∃a6 k6,(∀w:AT,(Instr.slice 141 (.slice a1 r.length k1) (some (V ((H:Int)+(I:Int)))) none none).run prog w=.ok (.slice a6 (r.length-(H+I)) k6) w)/\be wr (.slice a6 (r.length-(H+I)) k6) (r.drop (H+I)):=by have h:=sE a1 r.length k1 (H+I) o_ o_ ((H:Int)+(I:Int)) o_;have X:=Y.o.cut (H+I) r.length o_ o_;rw[take_length]at X;exact⟨_,_,h,X⟩
   have Js:=ah Jm;clear Jm;go_wp2;go_roundw
   case rel=>exact⟨r.drop (H+I),by simp;omega,Js.o.below Jk,by rw[Jg.o,hf1,hf2];rfl,Jn⟩
   case measure=>simp[lenOf];omega
end
section
open Go.RowKit
variable{ss:List St}
def EZ(a:Option Addr)(n cap H I:Nat)(U:H<=I)(h2:I<=n)(h3:n<=cap)(O J:Int)(Jb:O=H)(Ja:J=I):∀w:AT,(Instr.slice 141 (.slice a n cap) (some (V O)) (some (V J)) none).run prog w=.ok (.slice (if cap=H then a else a.map (·.add (H*6))) (I-H) (cap-H)) w:=by intro w;have h:=ud a n cap H I U h2 h3 w;rw[show((H:Int)+((I-H:Nat):Int))=I by omega]at h;rw[Jb,Ja];exact h
end
section
open Go.RowKit
structure SV where
 s:St
 ve:BY
 vf:BY
 ke:List Nat
 kf:List Nat
def cellsS(q:SV):List BY:=[V q.s.kd,sV q.s.nm,q.ve,q.vf,V q.s.th,V q.s.el]
def cQ(R:List SV):List BY:=R.flatMap cellsS
def cC(R:List SV):List Nat:=R.flatMap (λq=>q.ke++q.kf)
theorem mT(R:List SV):(cQ R).length=R.length*6:=by
 induction R with
 | nil=>rfl
 | cons a r ih=>
  have:(cQ (a::r)).length=6+(cQ r).length:=by simp[cQ,cellsS];omega
  rw[this,ih,l_c];omega
def mc(a b:List SV):cQ (a++b)=cQ a++cQ b:=by simp[cQ]
def fj(a b:List SV):cC (a++b)=cC a++cC b:=by simp[cC]
theorem jg:∀(R:List SV) (j i:Nat) (hj:j<R.length),i<6->(cQ R)[j*6+i]? =(cellsS R[j])[i]?
 | x::l,0,i,_,hi=>by
  have:(cellsS x).length=6:=rfl
  show(cellsS x++cQ l)[0*6+i]? =_;rw[getElem?_append_left o_];simp
 | x::l,j+1,i,hj,hi=>by have h7:(cellsS x).length=6:=rfl;show(cellsS x++cQ l)[(j+1)*6+i]? =_;rw[getElem?_append_right o_];have e:(j+1)*6+i-(cellsS x).length=j*6+i:=o_;rw[e,jg l j i (D4 hj) hi];simp
def sF(R:List SV)(h:∀q∈R,q.ve.oneCell'=true/\q.vf.oneCell'=true):∀u∈cQ R,u.oneCell'=true:=by intro u H;simp only[cQ,mem_flatMap]at H;obtain⟨q,I,H⟩:=H;have⟨J,h2⟩:=h q I;simp only[cellsS,mem_cons,not_mem_nil,or_false]at H;rcases H with rfl|rfl|rfl|rfl|rfl|rfl;rfl;rfl;exact J;exact h2;rfl;rfl
def mU:(prog.info? 254).map (λi=>(i.zero,i.size,i.bytes))=some (some (.agg #[V 0,sV ⟨#[]⟩,nV,nV,V 0,V 0]),6,88):=by kernel_rfl
def a_.cell1{w:AT}{v:BY}{ns:List Nd}(h:a_ w v ns):v.oneCell'=true:=by obtain⟨a,c,rfl,-⟩:=h;rfl
end
section
open Go.RowKit
def mV(k t l:Int)(Y:IF)(H U:Option Addr)(I J X O:Nat)(w:AT):
  Calls prog 168 #[.agg #[V k,sV Y,.slice H I J,.slice U X O,V t,V l]] w λe w'=>e=rW (.agg #[.slice H I J,.slice U X O])/\Bl w w':=by
 go_in;go_wp2_with fail;exact bodyPost_ret (v:=.agg #[.slice H I J,.slice U X O]) (by simp[results,results168,go_sem]) rfl ⟨rfl,(aq _ _).alloc i_ _⟩
def KV(u v:BY)(W:AT):(Instr.index 307 (.agg #[u,v]) (V ((1:Nat):Int))).run prog W=.ok v W:=by simp[Instr.index,go_sem]
def KW(u v:BY)(W:AT):(Instr.index 307 (.agg #[u,v]) (V ((0:Nat):Int))).run prog W=.ok u W:=by simp[Instr.index,go_sem]
end
section
open Go.RowKit
variable{w w':AT}{ps:List IF}
def AK(w:AT)(b off:Nat)(ps:List IF):Prop:=∀j (h:j<ps.length),w.cell? ⟨b,off+j,none⟩=some (sV ps[j])
def AK.below{b off:Nat}(h:AK w b off ps)(I:Bl w w'):AK w' b off ps:=by intro j H;have c:=h j H;exact(I.cell (b_ c)).trans c
def Strs(w:AT)(v:BY)(ps:List IF):Prop:=∃a cap,v=.slice a ps.length cap/\ps.length<=cap/\cap<=9223372036854775807/\(0<ps.length->∃b off,a=some ⟨b,off,none⟩/\AK w b off ps)
def Strs.below{v:BY}(h:Strs w v ps)(O:Bl w w'):Strs w' v ps:=by obtain⟨a,Jb,rfl,I,H,h⟩:=h;refine⟨a,Jb,rfl,I,H,λh0=>?_⟩;obtain⟨b,Ja,rfl,J⟩:=h h0;exact⟨b,Ja,rfl,J.below O⟩
def Cd(f:Fu)(vp vb:BY)(w:AT)(hT:eG w)(X:iP f)(hp:Strs w vp f.pm)(hb:be w vb f.bd):
  Calls prog 69 #[.agg #[sV f.nm,vp,vb]] w λe w'=>e=rW (.bool (funcB f))/\Bl w w':=by
 obtain⟨name,ps,ss⟩:=f;simp only at hp hb⊢;have⟨HP,HS,Y,HF⟩:=h4 hp hb hT X;have Ju:ps.length<=1048576:=HF.o.1;have Jl:ss.length<=1048576:=HF.o.2.1;obtain⟨ap,cp,rfl,-,-,Jp⟩:=hp;obtain⟨ab,cb,rfl,-,-,Jj⟩:=hb;have⟨Jk,Js⟩:=h2 Jp Jj;go_in;go_wp2_with fail;refine(kH _ _).mono ?_;rintro e w1 ⟨rfl,Jf⟩;simp only[Bl,K9]at Jf;have Jh:=aR Jf;have⟨x0,x1,x2⟩:=yO Jf;cases hn:cU name
 ·go_wp2;go_ret;exact⟨aB (by simp only[funcB,hn,Bool.false_and]),Jh⟩
 by_cases h6:6<ps.length
 ·go_wp2;go_ret;exact⟨aB (by simp only[funcB,hn,decide_eq_false (show ¬ps.length<=6 by omega),Bool.false_and,Bool.and_false]),Jh⟩
 by_cases h5:500<ss.length
 ·go_wp2;go_ret;exact⟨aB (by simp only[funcB,hn,decide_eq_false (show ¬ss.length<=500 by omega),Bool.false_and,Bool.and_false]),Jh⟩
 have Je:Hid (funcB ⟨name,ps,ss⟩=(ps.all cU&&(stmtsB bB ss&&cD ss))):=by show _=_;simp only[funcB,hn,decide_eq_true (show ps.length<=6 by omega),decide_eq_true (show ss.length<=500 by omega),Bool.true_and]
 go_wp2;go_loopw[27] (λi wr=>∃k:Nat,k<=ps.length/\i=V k/\(∀s∈ps.take k,cU s=true)/\Below (w.heap.size+1) (w.alloc (.cells #[sV name,.slice ap ps.length cp,.slice ab ss.length cb] 143)) wr) (λi _=>ps.length-(RowKit.intOf i).toNat)
 case atStart=>exact⟨0,y_,rfl,i_,Jf⟩
 case round=>
  obtain⟨k,hk,rfl,Z,H⟩:=hrel;have J:=ah Z;have Ja:=aR H;by_cases hlt:k<ps.length
  ·obtain⟨b,Jo,rfl,hc⟩:=Jk o_;have d0:=(hc.below Ja) k hlt;have O:Hid (ps.take (k+1)=ps.take k++[ps[k]]):=bP ps k hlt;have U:Hid (cU ps[k]=false->ps.all cU=false):=G_ hlt;generalize ps[k]=s at d0 O U;go_wp2_with fail;refine(kH _ _).mono ?_;rintro e w2 ⟨rfl,Jd⟩;have Jc:=H.trans (Jd.mono (by have:=H.size;simp at this;omega));cases hv:cU s
   ·go_wp2;go_ret;exact⟨aB (by rw[Je.o,U.o hv];rfl),aR Jc⟩
   go_wp2;go_roundw
   case rel=>refine⟨k+1,o_,by go_num,λm hm=>?_,Jc⟩;rw[O.o]at hm;rcases K5.1 hm with hm|hm;exact J m hm;rw[K7.1 hm];exact hv
   case measure=>exact D1
  have HA:Hid (ps.all cU=true):=by show _=_;rw[all_eq_true];have:=J.o;rw[take_of_length_le o_]at this;exact this
  have⟨x0,x1,x2⟩:=yO H;go_wp2;go_loopw[5,38] (λq i wr=>∃k:Nat,k<=ss.length/\i=V k/\q=V (aU (ss.take k):Nat)/\aU (ss.take k)<=2000/\(∀s∈ss.take k,bB s=true)/\Below (w.heap.size+1) (w.alloc (.cells #[sV name,.slice ap ps.length cp,.slice ab ss.length cb] 143)) wr) (λ_ i _=>ss.length-(RowKit.intOf i).toNat)
  case atStart=>exact⟨0,y_,rfl,rfl,by simp[aU],i_,H⟩
  case round=>
   obtain⟨k,hk,rfl,rfl,hq,Z,H⟩:=hrel;have J:=ah Z;have Ja:=aR H;by_cases hlt:k<ss.length
   ·obtain⟨b,Jo,rfl,hc⟩:=Js o_;have⟨ve,vf,⟨c0,c1,c2,c3,c4,c5⟩,he,X⟩:=(hc.below Ja) k hlt;have O:Hid (ss.take (k+1)=ss.take k++[ss[k]]):=bP ss k hlt;have U:Hid (bB ss[k]=false->stmtsB bB ss=false):=xV hlt;have I:Hid _:=tz ss k hlt;have HY:Hid (2000<aU (ss.take (k+1))->stmtsB bB ss=false):=xU;have Ji:=HF.o.2.2 ss[k] (g_ hlt);generalize ss[k]=s at c0 c1 c2 c3 c4 c5 he X O U I Ji;generalize aU (ss.take k)=q at hq I;have⟨Jm,Jq⟩:=h2 he X;obtain⟨a2,k2,rfl,-,-,-⟩:=he;obtain⟨a3,k3,rfl,-,-,-⟩:=X;have Jn:=Ji.1;have Jr:=Ji.2;by_cases hs:2000<q+(s.e.length+s.f.length)
    ·go_wp2;go_ret;exact⟨aB (by rw[Je.o,HY.o (by rw[I.o];omega)];simp),Ja.alloc Ja.size _⟩
    have Jb:Bl wr (wr.alloc (.cells #[V s.kd,sV s.nm,.slice a2 s.e.length k2,.slice a3 s.f.length k3,V s.th,V s.el] 254)):=aq _ _;go_wp2_with fail;refine(B5 s _ _ _ ((Y.o.below Y.o.size Ja).below (Y.o.below Y.o.size Ja).size Jb) Jn Jr (Jm.o.below Jb) (Jq.o.below Jb)).mono ?_;rintro e w2 ⟨rfl,Jd⟩;have Jg:=Jb.trans (Jd.mono Jb.size);have Jc:=H.trans (Jg.mono (by have:=H.size;simp at this;omega));cases hv:bB s
    ·go_wp2;go_ret;exact⟨aB (by rw[Je.o,U.o hv];simp),aR Jc⟩
    go_wp2;go_roundw
    case rel=>refine⟨k+1,o_,by go_num,?_,by rw[I.o];omega,λm hm=>?_,Jc⟩;rw[I.o];congr 1;omega;rw[O.o]at hm;rcases K5.1 hm with hm|hm;exact J m hm;rw[K7.1 hm];exact hv
    case measure=>exact D1
   have Jt:Hid (stmtsB bB ss=true):=by show _=_;have h1:=J;rw[take_of_length_le o_]at h1 hq;exact Bn hq h1
   have⟨x0,x1,x2⟩:=yO H;go_wp2_with fail;refine(Ii ss.length _ ss _ n_ Jl (HS.o.below Ja)).mono ?_;rintro e w2 ⟨rfl,Jd⟩;go_wp2;go_ret;exact⟨aB (by rw[Je.o,HA.o,Jt.o];rfl),Ja.trans (Jd.mono Ja.size)⟩
end
section
open Go.RowKit
variable{w w':AT}{b off:Nat}{gs:List Gl}{v:BY}{fs:List Fu}
def ue(w:AT)(b off:Nat)(gs:List Gl):Prop:=∀j (h:j<gs.length),w.cell? ⟨b,off+j*2,none⟩=some (sV gs[j].nm)/\w.cell? ⟨b,off+j*2+1,none⟩=some (V gs[j].size)
def ue.below(h:ue w b off gs)(I:Bl w w'):ue w' b off gs:=by intro j J;have⟨H,O⟩:=h j J;have Ja:=b_ H;exact⟨(I.cell (p:=⟨b,off+j*2,none⟩) Ja).trans H,(I.cell (p:=⟨b,off+j*2+1,none⟩) Ja).trans O⟩
def dz(w:AT)(v:BY)(gs:List Gl):Prop:=∃a cap,v=.slice a gs.length cap/\gs.length<=cap/\cap<=9223372036854775807/\(0<gs.length->∃b off,a=some ⟨b,off,none⟩/\ue w b off gs)
def dz.below(h:dz w v gs)(O:Bl w w'):dz w' v gs:=by obtain⟨a,Jb,rfl,I,H,h⟩:=h;refine⟨a,Jb,rfl,I,H,λh0=>?_⟩;obtain⟨b,Ja,rfl,J⟩:=h h0;exact⟨b,Ja,rfl,J.below O⟩
def pR(w:AT)(b off:Nat)(fs:List Fu):Prop:=∀j (h:j<fs.length),∃vp vb,(w.cell? ⟨b,off+j*3,none⟩=some (sV fs[j].nm)/\w.cell? ⟨b,off+j*3+1,none⟩=some vp/\w.cell? ⟨b,off+j*3+2,none⟩=some vb)/\Strs w vp fs[j].pm/\be w vb fs[j].bd
def pR.below(h:pR w b off fs)(H:Bl w w'):pR w' b off fs:=by intro j U;have⟨vp,vb,⟨I,Y,J⟩,O,X⟩:=h j U;have Ja:=b_ I;exact⟨vp,vb,⟨(H.cell (p:=⟨b,off+j*3,none⟩) Ja).trans I,(H.cell (p:=⟨b,off+j*3+1,none⟩) Ja).trans Y,(H.cell (p:=⟨b,off+j*3+2,none⟩) Ja).trans J⟩,O.below H,X.below H⟩
def cF(w:AT)(v:BY)(fs:List Fu):Prop:=∃a cap,v=.slice a fs.length cap/\fs.length<=cap/\cap<=9223372036854775807/\(0<fs.length->∃b off,a=some ⟨b,off,none⟩/\pR w b off fs)
def cF.below(h:cF w v fs)(O:Bl w w'):cF w' v fs:=by obtain⟨a,Jb,rfl,I,H,h⟩:=h;refine⟨a,Jb,rfl,I,H,λh0=>?_⟩;obtain⟨b,Ja,rfl,J⟩:=h h0;exact⟨b,Ja,rfl,J.below O⟩
def wd{t:IN}{x y:BY}(h:Below (w.heap.size+1) (w.alloc (.cells #[x,y] t)) w'):
  w'.cell? ⟨w.heap.size,0,none⟩=some x/\w'.cell? ⟨w.heap.size,1,none⟩=some y:=by
 refine⟨?_,?_⟩ <;> (rw[h.cell i_];simp)
def Ce(g:Gl)(w:AT):Calls prog 68 #[.agg #[sV g.nm,V g.size]] w λe w'=>e=rW (.bool (fN g))/\Bl w w':=by
 obtain⟨s,z⟩:=g;simp only;go_in;go_wp2_with fail;refine(kH _ _).mono ?_;rintro e w1 ⟨rfl,Jb⟩;simp only[Bl,K9]at Jb;have Ja:=aR Jb;have⟨x0,x1⟩:=wd Jb;cases hn:cU s
 ·go_wp2;go_ret;exact⟨aB (by simp only[fN,hn,Bool.false_and]),Ja⟩
 by_cases h0:z<0
 ·go_wp2;go_ret;exact⟨aB (by simp only[fN,hn];simp;omega),Ja⟩
 go_wp2;go_ret;refine⟨aB ?_,Ja⟩;simp only[fN,hn,Bool.true_and];apply Bool.eq_iff_iff.2;simp <;> omega
def sG(t:Tr)(vg vf:BY)(w:AT)(hT:eG w)(ht:eK t)(I:dz w vg t.gl)(hf:cF w vf t.fc):
  Calls prog 43 #[.agg #[vg,vf]] w λe w'=>e=rW (.bool (co t))/\Bl w w':=by
 obtain⟨gs,fs⟩:=t;simp only at I hf⊢;have⟨X,HS⟩:=h2 hT ht;have Jo:gs.length<=1048576:=HS.o.1;have Jn:fs.length<=1048576:=HS.o.2.1;obtain⟨ag,cg,rfl,-,-,Jk⟩:=I;obtain⟨af,cf,rfl,-,-,Ji⟩:=hf;have⟨Jm,Jl⟩:=h2 Jk Ji;by_cases h5:50<gs.length
 ·go_in;go_wp2;go_ret;exact⟨aB (by simp only[co,decide_eq_false (show ¬gs.length<=50 by omega),Bool.false_and]),r_.alloc n_ _⟩
 by_cases h6:50<fs.length
 ·go_in;go_wp2;go_ret;exact⟨aB (by simp only[co,decide_eq_false (show ¬fs.length<=50 by omega),Bool.false_and,Bool.and_false]),r_.alloc n_ _⟩
 have Jd:Hid (co ⟨gs,fs⟩=(gs.all fN&&fs.all funcB)):=by show _=_;simp only[co,decide_eq_true (show gs.length<=50 by omega),decide_eq_true (show fs.length<=50 by omega),Bool.true_and]
 go_in;go_wp2;go_loopw[20] (λi wr=>∃k:Nat,k<=gs.length/\i=V k/\(∀g∈gs.take k,fN g=true)/\Below (w.heap.size+1) (w.alloc (.cells #[.slice ag gs.length cg,.slice af fs.length cf] 63)) wr) (λi _=>gs.length-(RowKit.intOf i).toNat)
 case atStart=>exact⟨0,y_,rfl,i_,r_⟩
 case round=>
  obtain⟨k,hk,rfl,I,H⟩:=hrel;have J:=ah I;have Ja:=aR H;by_cases hlt:k<gs.length
  ·obtain⟨b,Jh,rfl,hc⟩:=Jm o_;have⟨d0,Y⟩:=(hc.below Ja) k hlt;have U:Hid (gs.take (k+1)=gs.take k++[gs[k]]):=bP gs k hlt;have O:Hid (fN gs[k]=false->gs.all fN=false):=DF hlt;generalize gs[k]=g at d0 Y U O;go_wp2_with fail;refine(Ce g _).mono ?_;rintro e w2 ⟨rfl,Jf⟩;have Jc:=(H.alloc (by have:=H.size;simp at this;omega) (.cells #[sV g.nm,V g.size] 140)).trans (Jf.mono (by have:=H.size;simp at this;simp;omega));cases hv:fN g
   ·go_wp2;go_ret;exact⟨aB (by rw[Jd.o,O.o hv];rfl),aR Jc⟩
   go_wp2;go_roundw
   case rel=>refine⟨k+1,o_,by go_num,λm hm=>?_,Jc⟩;rw[U.o]at hm;rcases K5.1 hm with hm|hm;exact J m hm;rw[K7.1 hm];exact hv
   case measure=>exact D1
  have HA:Hid (gs.all fN=true):=by show _=_;rw[all_eq_true];have:=J.o;rw[take_of_length_le o_]at this;exact this
  have⟨x0,x1⟩:=wd H;go_wp2;go_loopw[31] (λi wr=>∃k:Nat,k<=fs.length/\i=V k/\(∀f∈fs.take k,funcB f=true)/\Below (w.heap.size+1) (w.alloc (.cells #[.slice ag gs.length cg,.slice af fs.length cf] 63)) wr) (λi _=>fs.length-(RowKit.intOf i).toNat)
  case atStart=>exact⟨0,y_,rfl,i_,H⟩
  case round=>
   obtain⟨k,hk,rfl,I,H⟩:=hrel;have J:=ah I;have Ja:=aR H;by_cases hlt:k<fs.length
   ·obtain⟨b,Jh,rfl,hc⟩:=Jl o_;have⟨vp,vb,⟨d0,Y,d2⟩,Z,hs⟩:=(hc.below Ja) k hlt;have U:Hid (fs.take (k+1)=fs.take k++[fs[k]]):=bP fs k hlt;have O:Hid (funcB fs[k]=false->fs.all funcB=false):=DG hlt;have Jg:Hid (iP fs[k]):=HS.o.2.2 fs[k] (g_ hlt);generalize fs[k]=f at d0 Y d2 U O Jg Z hs;have⟨HP,HB⟩:=h2 Z hs;obtain⟨a2,k2,rfl,-,-,-⟩:=Z;obtain⟨a3,k3,rfl,-,-,-⟩:=hs;have Jb:Bl wr (wr.alloc (.cells #[sV f.nm,.slice a2 f.pm.length k2,.slice a3 f.bd.length k3] 143)):=aq _ _;go_wp2_with fail;refine(Cd f _ _ _ ((X.o.below X.o.size Ja).below (X.o.below X.o.size Ja).size Jb) Jg (HP.o.below Jb) (HB.o.below Jb)).mono ?_;rintro e w2 ⟨rfl,Jf⟩;have Je:=Jb.trans (Jf.mono Jb.size);have Jc:=H.trans (Je.mono (by have:=H.size;simp at this;omega));cases hv:funcB f
    ·go_wp2;go_ret;exact⟨aB (by rw[Jd.o,O.o hv];simp),aR Jc⟩
    go_wp2;go_roundw
    case rel=>refine⟨k+1,o_,by go_num,λm hm=>?_,Jc⟩;rw[U.o]at hm;rcases K5.1 hm with hm|hm;exact J m hm;rw[K7.1 hm];exact hv
    case measure=>exact D1
   have Jj:Hid (fs.all funcB=true):=by show _=_;rw[all_eq_true];have:=J.o;rw[take_of_length_le o_]at this;exact this
   go_wp2;go_ret;exact⟨aB (by rw[Jd.o,HA.o,Jj.o];rfl),Ja⟩
end
section
open Go.RowKit
variable{w:AT}{v:BY}{us:List IF}{B:Nat}
def E_:(prog.info? 9).map (λi=>(i.zero,i.size,i.bytes))=some (some (sV ⟨#[]⟩),1,16):=by kernel_rfl
end
section
open Go.RowKit
structure FV where
 f:Fu
 vp:BY
 vb:BY
 R:List SV
 kp:List Nat
 kb:List Nat
def dS(q:FV):List BY:=[sV q.f.nm,q.vp,q.vb]
def gy(Q:List FV):List BY:=Q.flatMap dS
def pT(q:FV):List Nat:=q.kp++(q.kb++cC q.R)
def kP(Q:List FV):List Nat:=Q.flatMap pT
theorem sH(Q:List FV):(gy Q).length=Q.length*3:=by
 induction Q with
 | nil=>rfl
 | cons a r ih=>
  have:(gy (a::r)).length=3+(gy r).length:=by simp[gy,dS];omega
  rw[this,ih,l_c];omega
def uf(a b:List FV):gy (a++b)=gy a++gy b:=by simp[gy]
def blkF_append(a b:List FV):kP (a++b)=kP a++kP b:=by simp[kP]
theorem mW:∀(Q:List FV) (j i:Nat) (hj:j<Q.length),i<3->(gy Q)[j*3+i]? =(dS Q[j])[i]?
 | x::l,0,i,_,hi=>by
  have:(dS x).length=3:=rfl
  show(dS x++gy l)[0*3+i]? =_;rw[getElem?_append_left o_];simp
 | x::l,j+1,i,hj,hi=>by have h7:(dS x).length=3:=rfl;show(dS x++gy l)[(j+1)*3+i]? =_;rw[getElem?_append_right o_];have e:(j+1)*3+i-(dS x).length=j*3+i:=o_;rw[e,mW l j i (D4 hj) hi];simp
def Cf:(prog.info? 143).map (λi=>(i.zero,i.size,i.bytes))=some (some (.agg #[sV ⟨#[]⟩,nV,nV]),3,64):=by kernel_rfl
end
section
open Go.RowKit
variable{s:St}{f:Fu}
def fm{s:IF}(h:cU s=true):s.size<=20:=by simp only[cU,K0]at h;exact h.2.1
def jh{s:IF}(h:(s.toList == [])=true):s.size<=20:=by
 have e:s.toList=[]:=D4 h;rw[ByteArray.toList_eq]at e;have H:s.data.size=0:=by rw[<-Array.length_toList,e];rfl
 show s.data.size<=20;omega
def nP{n:Nd}(h:aD n=true):n.nm.size<=20:=by unfold aD at h;split at h;rw[Io]at h;exact jh h.2;split at h;rw[Io]at h;exact fm h.2;split at h;rw[Io]at h;exact fm h.2;split at h;rw[Io]at h;exact jh h.2;split at h;rw[Io]at h;exact jh h.2;split at h;rw[Io]at h;exact jh h.2;cases h
structure GY (s:St):Prop where
 e:s.e.length<=2000
 f:s.f.length<=2000
 nm:s.nm.size<=20
 ne:∀n∈s.e,n.nm.size<=20
 nf:∀n∈s.f,n.nm.size<=20
def GY.of(h:bB s=true)(U:s.e.length<=2000)(O:s.f.length<=2000):GY s:=by unfold bB at h;simp only[Io]at h;obtain⟨⟨⟨⟨⟨⟨X,I⟩,J⟩,H⟩,Z⟩,a6⟩,Y⟩:=h;refine⟨U,O,?_,λn hn=>nP (gS J n hn),λn hn=>?_⟩;split at I;exact fm I;exact jh I;split at H;exact nP (gS H n hn);have e:s.f=[]:=K1 (D4 H);rw[e]at hn;cases hn
theorem yR{l:List St}(h:s∈l):s.e.length+s.f.length<=aU l:=by
 induction l with
 | nil=>cases h
 | cons a r ih=>
  simp only[aU];rcases mem_cons.1 h with rfl|h;omega
  have:=ih h;omega
def pU(h:funcB f=true):f.nm.size<=20/\f.pm.length<=6/\f.bd.length<=500/\(∀p∈f.pm,p.size<=20)/\cD f.bd=true/\∀s∈f.bd,bB s=true/\s.e.length<=2000/\s.f.length<=2000:=by unfold funcB stmtsB at h;simp only[Io,K0]at h;obtain⟨H,h2,h3,h4,⟨h5,h6⟩,h7⟩:=h;refine⟨fm H,h2,h3,λp hp=>fm (all_eq_true.1 h4 p hp),h7,λs hs=>⟨all_eq_true.1 h6 s hs,?_⟩⟩;have:=yR hs;omega
structure KX (f:Fu):Prop where
 nm:f.nm.size<=20
 ps:f.pm.length<=6
 bd:f.bd.length<=500
 pn:∀p∈f.pm,p.size<=20
 ok:∀s∈f.bd,GY s
def GY.wf(h:GY s):uO s:=by obtain⟨H,h2,h3,h4,h5⟩:=h;exact⟨o_,⟨o_,λn hn=>Ft (h4 n hn)⟩,⟨o_,λn hn=>Ft (h5 n hn)⟩⟩
def KX.wf(h:KX f):G0 f:=by obtain⟨H,h2,h3,h4,h5⟩:=h;exact⟨o_,⟨o_,λp hp=>Ft (h4 p hp)⟩,⟨o_,λs hs=>(h5 s hs).wf⟩⟩
def KX.small(h:KX f):iP f:=by obtain⟨H,h2,h3,h4,h5⟩:=h;exact⟨o_,o_,λs hs=>⟨by have:=(h5 s hs).e;omega,by have:=(h5 s hs).f;omega⟩⟩
end
section
open Go.RowKit
def xP(T:Nat->To)(n:Nat):Nat->PS->Tr->Tr->PS->Prop
 | 0,s,t,t',s'=>(s.er≠0\/(T s.i).kd=4)/\t'=t/\s'=s
 | k+1,s,t,t',s'=>s.er=0/\(T s.i).kd≠4/\∃x s1,Tp T n s x s1/\xP T n k s1 (h_ t x) t' s'
theorem xP.pg{T:Nat->To}{n:Nat}:∀ {k:Nat} {s:PS} {t t':Tr} {s':PS},xP T n k s t t' s'->Pg T n s t t' s'
 | 0,s,t,t',s',h=>by obtain⟨h1,rfl,rfl⟩:=h;exact .done _ _ h1
 | k+1,s,t,t',s',h=>by obtain⟨h0,h4,x,s1,hx,h2⟩:=h;exact .more s t x s1 t' s' h0 h4 hx h2.pg
theorem xP.end'{T:Nat->To}{n:Nat}{k:Nat}{s:PS}{t J:Tr}{I:PS}(h:xP T n k s t J I)(H:s.er≠0\/(T s.i).kd=4):J=t/\I=s:=by
 cases k with
 | zero=>exact⟨h.2.1,h.2.2⟩
 | succ k=>obtain⟨O,h4,-⟩:=h;rcases H with H|H;exact absurd O H;exact absurd H h4
theorem xP.more'{T:Nat->To}{n:Nat}{k:Nat}{s:PS}{t I:Tr}{H:PS}(h:xP T n k s t I H)(O:s.er=0)(h4:(T s.i).kd≠4):∃m x s1,k=m+1/\Tp T n s x s1/\xP T n m s1 (h_ t x) I H:=by
 cases k with
 | zero=>rcases h.1 with h1|h1;exact absurd O h1;exact absurd h1 h4
 | succ k=>obtain⟨-,-,x,s1,J,h2⟩:=h;exact⟨k,x,s1,rfl,J,h2⟩
def xP.sizes{T:Nat->To}{n K:Nat}{k:Nat}{s1:PS}{t X:Tr}{Y:PS}{x:Gl ⊕ Fu}(h:xP T n k s1 (h_ t x) X Y)(I:Mw K 0 X)(Z:K<=20000):(∀f,x=.inr f->f.pm.length<=1000000/\oy f.bd<=1000000)/\(t.gl.length<=100000/\t.fc.length<=100000)/\∀g,x ≠ .inl g:=by
 have⟨⟨a,J⟩,b,U⟩:=h.pg.grow;have H:=I.gl;rw[J,U]at H;simp only[l_a]at H;refine⟨λf hf=>?_,⟨?_,?_⟩,λg hg=>?_⟩
 subst hf
 have:=I.fs f (by rw[U];simp[h_])
 unfold O1 at this;omega;cases x <;> simp only[h_,l_a,length_singleton]at H <;> omega
 cases x <;> simp only[h_,l_a,length_singleton]at H <;> omega
 subst hg;have O:=I.g0;rw[J]at O;simp[h_]at O
theorem KY{s:St}{l:List St}(h:s∈l):s.e.length+s.f.length<=oy l:=by
 induction l with
 | nil=>cases h
 | cons a r ih=>
  rw[j_];rcases mem_cons.1 h with rfl|h;omega
  have:=ih h;omega
theorem KZ(l:List St):l.length<=oy l:=by
 induction l with
 | nil=>exact n_
 | cons s l ih=>rw[j_];simp only[l_c];omega
def Mw.small{K:Nat}{t:Tr}(h:Mw K 0 t)(J:K<=20000):eK t:=by
 have I:=h.gl;refine⟨o_,o_,λf H=>?_⟩;have H:=h.fs f H;unfold O1 at H
 have:=KZ f.bd
 refine⟨o_,o_,λs hs=>?_⟩
 have:=KY hs
 exact⟨o_,o_⟩
def Ds:PS:=⟨0,0,0,0⟩
def Ij:Tr:=⟨[],[]⟩
structure Rn (l:List UInt8) (T:Nat->To) (K k:Nat) (t:Tr) (s:PS):Prop where
 las:OE T K
 kl:K<=l.length
 pg:xP T (20*K+40) k Ds Ij t s
 sm:Mw K 0 t
def ug(l:List UInt8)(t:Tr)(s:PS):Int×Int×Tr:=if s.er≠0 then(s.er,s.pl,Ij)else if co t=true then(0,0,t)else(5,(l.length:Int),Ij)
end
end Go.Proofs.YtngnoopnloojjaaGreatDoor
