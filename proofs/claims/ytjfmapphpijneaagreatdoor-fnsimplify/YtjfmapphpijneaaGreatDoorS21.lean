import Derived.Test.YtjfmapphpijneaaGreatDoorS05
import Derived.Lib.ConvBytes
import Derived.Deep.RegionWith
import Derived.WalkSmall
namespace Go.Proofs.YtjfmapphpijneaaGreatDoor
open Go.World List
open Go.Proofs.Tryz Go.RowKit
set_option linter.all false
set_option maxRecDepth 100000
set_option maxHeartbeats 0
variable[Inhabited Pick]
def Cq(s:Io)(k:Nat):Prop:=rQ s k/\(k<s.size->iW (d8 s k)=false)
def Cr(b cap:Nat)(s:Io)(w:AT)(hs:s.size<=9223372036854775807)(U:∀j,j<s.size->DO w b j (.int .u8 (d8 s j))):
  Calls prog 147 #[rV b s.size cap,.func (.func 148) #[] #[]] w λe w'=>∃k:Nat,k<=s.size/\Cq s k/\e=rW (V k)/\w'=w:=by
 go_in;go_wp2_with fail;go_loop [9] (λi=>∃k:Nat,k<=s.size/\i=V k/\rQ s k) (λi=>s.size-(RowKit.intOf i).toNat)
 case atStart=>exact⟨0,y_,rfl,λj hj=>absurd hj (Nat.not_lt_zero _)⟩
 case round=>
  obtain⟨k,Z,rfl,J⟩:=hrel;have I:=ah J;by_cases hlt:k<s.size
  ·have Ja:=U k hlt;cases hd:iW (d8 s k)
   ·go_wp2_with(go_at_call 148;refine(qQ _ _).mono ?_;rintro e w' ⟨rfl,rfl⟩;rw[hd])
    go_ret;exact⟨k,o_,⟨I,λ_=>hd⟩,rfl,rfl⟩
   go_wp2_with(go_at_call 148;refine(qQ _ _).mono ?_;rintro e w' ⟨rfl,rfl⟩;rw[hd])
   go_round
   case rel=>exact⟨k+1,o_,by go_num,λj hj=>by by_cases e:j=k;(subst e;exact hd);exact I j o_⟩
   case measure=>exact IF
  go_wp2;go_ret;exact⟨s.size,o_,⟨λj hj=>I j o_,λh=>absurd h (Nat.lt_irrefl _)⟩,rfl,rfl⟩
def yN(s:Io)(k:Nat):Prop:=(fj (d8 s 0)=false/\k=0)\/(fj (d8 s 0)=true/\Cq s k)
def Ab(b cap:Nat)(s:Io)(w:AT)(Z:0<s.size)(hs:s.size<=9223372036854775807)(I:∀j,j<s.size->DO w b j (.int .u8 (d8 s j))):
  Calls prog 133 #[rV b s.size cap] w λe w'=>∃k:Nat,k<=s.size/\yN s k/\e=rW (V k)/\w'=w:=by
 have Jc:=I 0 Z;have Jb:((s.size:Int) == 0)=false:=by simp only[beq_eq_false_iff_ne];omega
 have U:=ah I;cases hd:fj (d8 s 0)
 ·go_in;go_wp2_with(go_at_call 146;refine(lN _ _).mono ?_;rintro e w' ⟨rfl,rfl⟩;rw[hd])
  go_ret;exact⟨0,o_,.inl ⟨hd,rfl⟩,rfl,rfl⟩
 go_in;go_wp2_with(go_at_call 146;refine(lN _ _).mono ?_;rintro e w' ⟨rfl,rfl⟩;rw[hd]);refine(Cr b cap s _ hs U).mono ?_;rintro e w' ⟨k,J,Ja,rfl,rfl⟩;go_wp2;go_ret;exact⟨k,J,.inr ⟨hd,Ja⟩,rfl,rfl⟩
def bytesWorld_below(w:AT)(e:JZ)(s:Io):Bl w (Lib.bytesWorld w e s):=
 ⟨rfl,rfl,rfl,by rw[Lib.bytesWorld_size];omega,λk hk=>Lib.bytesWorld_at_old w e s k hk⟩
def oX{s:Io}{k:Nat}(h1:1<=s.size)(h2:s.size<=20)(hk:k<=s.size)(h:yN s k)(Z:lE s=false):(k == s.size)=bh s:=by apply Bool.eq_iff_iff.2;simp only[beq_iff_eq,qR];constructor;rintro rfl;rcases h with⟨_,h⟩|⟨U,Ja⟩;omega;exact⟨h1,h2,U,Ja.1,Z⟩;intro I;rcases h with⟨h,_⟩|⟨U,Ja⟩;rw[I.2.2.1]at h;cases h;by_cases e:k=s.size;exact e;have J:=Ja.2 o_;rw[I.2.2.2.1 k o_]at J;cases J
def ur(s:Io)(w:AT)(h:s.size<1\/20<s.size):
  Calls prog 111 #[sV s] w λe w'=>e=rW (.bool (bh s))/\Bl w w':=by
 have I:bh s=false:=gx λhp=>Ia hp.1 hp.2.1
 rw[I];rcases h with h|h
 ·go_in;go_wp2;go_ret;exact⟨rfl,r_⟩
 have J:1<=s.size:=o_;go_in;go_wp2;go_ret;exact⟨rfl,r_⟩
def wU(s:Io)(w:AT)(J:1<=s.size)(h2:s.size<=20):
  Calls prog 111 #[sV s] w λe w'=>e=rW (.bool (bh s))/\Bl w w':=by
 have Jb:∀w,(convert 9 22 (sV s)).run prog w=.ok (rV w.heap.size s.size (grownCap w s.size 0 5)) (Lib.bytesWorld w 5 s):=λw=>Lib.run_convert_string_bytes w 9 _ 5 s underlying9 underlying22 underlying5;go_in;go_wp2_with fail;refine(Ab _ _ s _ o_ o_ (λj hj=>Lib.bytesWorld_cell w 5 s j hj)).mono ?_;rintro e w' ⟨k,I,Jc,rfl,rfl⟩;have Ja:=ah Jc;by_cases hks:k=s.size
 ·subst hks;cases hr:lE s
  all_goals
   go_wp2_with(go_at_call 134;refine(Cb _ _).mono ?_;rintro e w' ⟨rfl,rfl⟩;rw[hr]);go_ret
  refine⟨ak ?_,bytesWorld_below w 5 s⟩;rw[<-oX J h2 I Ja.o hr];simp;exact⟨ak (gx λhp=>by have:=hp.2.2.2.2;rw[hr]at this;cases this).symm,bytesWorld_below w 5 s⟩
 have Jd:((k:Int) == (s.size:Int))=false:=by simp only[beq_eq_false_iff_ne];omega
 go_wp2;go_ret;refine⟨ak ?_,bytesWorld_below w 5 s⟩;cases hr:lE s;rw[<-oX J h2 I Ja.o hr];simp;omega;exact(gx λhp=>by have:=hp.2.2.2.2;rw[hr]at this;cases this).symm
def jW(s:Io)(w:AT):Calls prog 111 #[sV s] w λe w'=>e=rW (.bool (bh s))/\Bl w w':=by by_cases h:1<=s.size/\s.size<=20;exact wU s w h.1 h.2;exact ur s w o_
def dx{k:IntKind}{a b:Int}(h:a=b):Ending.returned (.int k a)=rW (.int k b):=by rw[h]
def ja(v I J:Int)(w:AT):Calls prog 45 #[V v,V I,V J] w λe w'=>e=rW (.bool (decide (I<=v/\v<=J)))/\w'=w:=by
 go_in;go_wp2
 all_goals go_ret
 all_goals (refine⟨ak ?_,rfl⟩;apply Bool.eq_iff_iff.2;simp <;> omega)
def ut(v:Int)(w:AT):Calls prog 142 #[V v] w λe w'=>e=rW (V (wrap32 v))/\w'=w:=by go_in;go_wp2;go_ret;exact⟨dx (by unfold wrap64 wrap32;omega),rfl⟩
def qV(v:Int):v=wrap32 v ↔ -2147483648<=v/\v<=2147483647:=by unfold wrap32;omega
def Ac(k v:Int)(s:Io)(w:AT):Calls prog 143 #[.agg #[V k, V v, sV s]] w λe w'=>e=rW (V (arity ⟨k, v, s⟩)) ∧ Bl w w':= by
  go_in;go_wp2
  all_goals go_ret
  all_goals (refine⟨dx ?_, r_.alloc n_ _⟩; simp only[beq_iff_eq, beq_eq_false_iff_ne, ne_eq]at*; (try subst k); first|(exfalso; omega)|(simp[arity, *]; done))
def GN(v:Int)(s:Io)(w:AT):Calls prog 130 #[.agg #[V 1,V v,sV s]] w λe w'=>e=rW (.bool (aJ ⟨1,v,s⟩))/\Bl w w':=by
  cases h:(v == wrap32 v)
  · go_in
    go_wp2_with fail
    go_quiet ((go_at_call 142;exact Calls.quiet_of_same (ut _ _)))
    go_wp2;go_ret
    exact⟨ak (by have:¬(v=wrap32 v):=IN h
                 rw[qV]at this;simp[aJ];omega),below_drewN (ao _ _) _⟩
  · go_in
    go_wp2_with fail
    go_quiet ((go_at_call 142;exact Calls.quiet_of_same (ut _ _)))
    go_wp2;go_ret
    exact⟨ak (by have:(v=wrap32 v):=IN h
                 rw[qV]at this;simp[aJ,this]),below_drewN (ao _ _) _⟩
def EO(k v:Int)(I:k=2\/k=3)(s:Io)(w:AT):Calls prog 130 #[.agg #[V k,V v,sV s]] w λe w'=>e=rW (.bool (aJ ⟨k,v,s⟩))/\Bl w w':=by
 by_cases h:v=0
 ·subst h;rcases I with rfl|rfl;all_goals
   go_in;go_wp2_with(go_at_call 44;refine(cK _ _).mono ?_;rintro e w' ⟨rfl,rfl⟩);go_ret;exact⟨ak (by simp[aJ]),r_.alloc n_ _⟩
 have J:(v == 0)=false:=IN h;rcases I with rfl|rfl;all_goals
  go_in;go_wp2;go_ret;exact⟨ak (by simp[aJ,h]),r_.alloc n_ _⟩
def GO(v:Int)(s:Io)(w:AT):Calls prog 130 #[.agg #[V 4,V v,sV s]] w λe w'=>e=rW (.bool (aJ ⟨4,v,s⟩))/\Bl w w':=by
 cases h:decide (0<=v/\v<=6)
 all_goals
  go_in;go_wp2_with(first|(go_at_call 45;refine(ja _ _ _ _).mono ?_;rintro e w' ⟨rfl,rfl⟩;rw[h])|(go_at_call 44;refine(cK _ _).mono ?_;rintro e w' ⟨rfl,rfl⟩));go_ret;exact⟨ak (by simp only[aJ];simp[h]),r_.alloc n_ _⟩
def GP(v:Int)(s:Io)(w:AT):Calls prog 130 #[.agg #[V 6,V v,sV s]] w λe w'=>e=rW (.bool (aJ ⟨6,v,s⟩))/\Bl w w':=by
 cases h:decide (0<=v/\v<=2)
 all_goals
  go_in;go_wp2_with(first|(go_at_call 45;refine(ja _ _ _ _).mono ?_;rintro e w' ⟨rfl,rfl⟩;rw[h]));go_ret;exact⟨ak (by simp only[aJ];simp[h]),r_.alloc n_ _⟩
def GQ(v:Int)(s:Io)(w:AT):Calls prog 130 #[.agg #[V 7,V v,sV s]] w λe w'=>e=rW (.bool (aJ ⟨7,v,s⟩))/\Bl w w':=by
 cases h:decide (0<=v/\v<=15)
 all_goals
  go_in;go_wp2_with(first|(go_at_call 45;refine(ja _ _ _ _).mono ?_;rintro e w' ⟨rfl,rfl⟩;rw[h]));go_ret;exact⟨ak (by simp only[aJ];simp[h]),r_.alloc n_ _⟩
def Ct(k v:Int)(I:k=5\/k=8\/k=9)(s:Io)(w:AT):Calls prog 130 #[.agg #[V k,V v,sV s]] w λe w'=>e=rW (.bool (aJ ⟨k,v,s⟩))/\Bl w w':=by
 by_cases h:v=0
 ·subst h;rcases I with rfl|rfl|rfl;all_goals
   go_in;go_wp2;go_ret;exact⟨ak (by simp[aJ]),r_.alloc n_ _⟩
 have J:(v == 0)=false:=IN h;rcases I with rfl|rfl|rfl;all_goals
  go_in;go_wp2;go_ret;exact⟨ak (by simp[aJ,h]),r_.alloc n_ _⟩
def GT(k v:Int)(U:k<1\/9<k)(s:Io)(w:AT):Calls prog 130 #[.agg #[V k,V v,sV s]] w λe w'=>e=rW (.bool (aJ ⟨k,v,s⟩))/\Bl w w':=by
 have I:(k == 1)=false:=by simp;omega
 have h2:(k == 2)=false:=by simp;omega
 have h3:(k == 3)=false:=by simp;omega
 have h4:(k == 4)=false:=by simp;omega
 have h5:(k == 5)=false:=by simp;omega
 have h6:(k == 6)=false:=by simp;omega
 have h7:(k == 7)=false:=by simp;omega
 have h8:(k == 8)=false:=by simp;omega
 have h9:(k == 9)=false:=by simp;omega
 have J:aJ ⟨k,v,s⟩=false:=by simp at I h2 h3 h4 h5 h6 h7 h8 h9;simp[aJ,I,h2,h3,h4,h5,h6,h7,h8,h9]
 rw[J];go_in;go_wp2;go_ret;exact⟨rfl,r_.alloc n_ _⟩
def Ad(n:Nd)(w:AT):Calls prog 130 #[.agg #[V n.kd,V n.val,sV n.nm]] w λe w'=>e=rW (.bool (aJ n))/\Bl w w':=by
 obtain⟨k,v,s⟩:=n;by_cases hx:k<1\/9<k;exact GT k v hx s w
 have:k=1\/(k=2\/k=3)\/k=4\/k=6\/k=7\/(k=5\/k=8\/k=9):=by omega
 rcases this with rfl|h|rfl|rfl|rfl|h;exact GN v s w;exact EO k v h s w;exact GO v s w;exact GP v s w;exact GQ v s w;exact Ct k v h s w
section
variable{w:AT}
def ny:List BY:=[.bool false,V 0,V 0,V 0,.bool false,V (-2147483648),V 2147483647,V 0,.bool true,V 0,V 0,V 0,.bool true,V 0,V 0,V 1,.bool true,V 0,V 6,V 0,.bool false,V 0,V 0,V 0,.bool false,V 0,V 2,V 1,.bool false,V 0,V 15,V 2,.bool false,V 0,V 0,V 2,.bool false,V 0,V 0,V 2]
def it:List Bool:=[false,false,false,false,false,true,false,false,false,false,true,false,false,false,false,true,true,false,false,false,false,false,true,true,false,false,false,true,false,false,false,false,false,false,false,false,false,false,false,false,false,false,false,false,true]
structure gF (w:AT):Prop where
 node:∀j,j<40->w.cell? ⟨1,j,none⟩=some (ny.getD j .nilFunc)
 stmt:True->∀j,j<45->w.cell? ⟨0,j,none⟩=some (.bool (it.getD j false))
 size:1<w.heap.size/\0<w.heap.size
def gF.below{w':AT}{B:Nat}(h:gF w)(J:1<B/\0<B)(I:Below B w w'):gF w':=by refine⟨λj hj=>?_,λht j hj=>?_,l_ h.size.1 I.size,l_ h.size.2 I.size⟩;rw[I.cell J.1];exact h.node j hj;rw[I.cell J.2];exact h.stmt ht j hj
def qW(s:Io)(w:AT):Calls prog 135 #[sV s,.bool true] w λe w'=>e=rW (.bool (bh s))/\Bl w w':=by go_in;go_wp2_with fail;refine(jW _ _).mono ?_;rintro e w' ⟨rfl,I⟩;go_wp2;go_ret;exact⟨rfl,I⟩
def uv(s:Io)(w:AT):Calls prog 135 #[sV s,.bool false] w λe w'=>e=rW (.bool (s.toList == []))/\Bl w w':=by go_in;go_wp2;go_ret;exact⟨i_,r_⟩
def gF.nodeUp(h:gF w)(j:Nat)(hj:j<40)(o:Obj):DO (w.alloc o) 1 j (ny.getD j .nilFunc):=
 (h.below h.size (r_.alloc n_ o)).node j hj
def gF.stmtUp(h:gF w)(j:Nat)(I:j<45)(o:Obj)(J:True:=by trivial):DO (w.alloc o) 0 j (.bool (it.getD j false)):=
 (h.below h.size (r_.alloc n_ o)).stmt J j I
def gF.all(h:gF w)(o:Obj):let U:=λ(j:Nat) v=>DO (w.alloc o) 1 j v;U 4 (.bool false)/\U 5 (V (-2147483648))/\U 6 (V 2147483647)/\U 7 (V 0)/\U 8 (.bool true)/\U 9 (V 0)/\U 10 (V 0)/\U 11 (V 0)/\U 12 (.bool true)/\U 13 (V 0)/\U 14 (V 0)/\U 15 (V 1)/\U 16 (.bool true)/\U 17 (V 0)/\U 18 (V 6)/\U 19 (V 0)/\U 20 (.bool false)/\U 21 (V 0)/\U 22 (V 0)/\U 23 (V 0)/\U 24 (.bool false)/\U 25 (V 0)/\U 26 (V 2)/\U 27 (V 1)/\U 28 (.bool false)/\U 29 (V 0)/\U 30 (V 15)/\U 31 (V 2)/\U 32 (.bool false)/\U 33 (V 0)/\U 34 (V 0)/\U 35 (V 2)/\U 36 (.bool false)/\U 37 (V 0)/\U 38 (V 0)/\U 39 (V 2):=by and_intros <;> exact h.nodeUp _ o_ o
def nine{k:Int}(h:1<=k/\k<=9):k=1\/k=2\/k=3\/k=4\/k=5\/k=6\/k=7\/k=8\/k=9:=by omega
def nz(n:Nd)(w:AT)(J:gF w)(I:1<=n.kd/\n.kd<=9):Calls prog 117 #[.agg #[V n.kd,V n.val,sV n.nm]] w λe w'=>e=rW (V (arity n))/\Bl w w':=by obtain⟨k,v,s⟩:=n;have⟨c0,c1,c2,c3,c4,c5,c6,c7,U,c9,Jo,Jk,Ja,Jq,Ji,Jm,Jy,Jc,Jw,Jp,Jz,Jt,Z,Js,Ju,Jd,Jf,Jv,Jn,Jb,Jl,Je,Jg,Jr,Jj,Jh⟩:=J.all (.cells #[V k,V v,sV s] 81);rcases nine I with rfl|rfl|rfl|rfl|rfl|rfl|rfl|rfl|rfl <;> (go_in;go_wp2;go_ret;exact⟨dx (by simp[arity]),r_.alloc n_ _⟩)
theorem Ae(n:Nd)(w:AT)(I:gF w):Calls prog 119 #[.agg #[V n.kd,V n.val,sV n.nm]] w λe w'=>e=rW (.bool (aJ n))/\Bl w w':=by
  obtain⟨k,v,s⟩:=n;by_cases hk:1<=k/\k<=9
  · have⟨c0,c1,c2,c3,c4,c5,c6,c7,Z,c9,Jo,Jk,Ja,Jq,Ji,Jm,Jy,Jc,Jw,Jp,Jz,Jt,Jx,Js,Ju,Jd,Jf,Jv,Jn,Jb,Jl,Je,Jg,Jr,Jj,Jh⟩:=I.all (.cells #[V k,V v,sV s] 81)
    clear I;by_cases h1:v<if k=1 then -2147483648 else 0
    case' neg=>by_cases h2:(if k=1 then 2147483647 else if k=4 then 6 else if k=6 then 2 else if k=7 then 15 else 0)<v
    all_goals
      rcases nine hk with rfl|rfl|rfl|rfl|rfl|rfl|rfl|rfl|rfl;all_goals
        simp only[Int.reduceEq,reduceIte]at h1;try simp only[Int.reduceEq,reduceIte]at h2
        go_in;go_wp2_with fail;first
        | go_ret;exact⟨ak (by simp[aJ];omega),(ao _ _).alloc i_ _⟩
        | first
          | with_reducible refine(uv _ _).mono ?_
          | with_reducible refine(qW _ _).mono ?_
          rintro e w' ⟨rfl,J⟩;go_wp2;go_ret;refine⟨ak ?_,((ao _ _).alloc i_ _).trans (J.mono H6)⟩;simp[aJ];omega
  have U:aJ ⟨k,v,s⟩=false:=by simp only[aJ];rw[if_neg o_,if_neg o_,if_neg o_,if_neg o_,if_neg o_,if_neg o_]
  rw[U];by_cases h':1<=k
  all_goals
    go_in;go_wp2;go_ret;exact⟨rfl,r_.alloc n_ _⟩
end
section
variable{w w':AT}{ns:List Nd}
def fZ(w:AT)(b off:Nat)(ns:List Nd):Prop:=∀j (h:j<ns.length),
 w.cell? ⟨b,off+j*3,none⟩=some (V ns[j].kd)/\w.cell? ⟨b,off+j*3+1,none⟩=some (V ns[j].val)/\w.cell? ⟨b,off+j*3+2,none⟩=some (sV ns[j].nm)
def fZ.below{b off:Nat}(h:fZ w b off ns)(I:Bl w w'):fZ w' b off ns:=by intro j Z;have⟨J,c1,U⟩:=h j Z;have Ja:=b_ J;exact⟨(I.cell Ja).trans J,(I.cell (p:=⟨b,off+j*3+1,none⟩) Ja).trans c1,(I.cell (p:=⟨b,off+j*3+2,none⟩) Ja).trans U⟩
def aC(w:AT)(v:BY)(ns:List Nd):Prop:=∃a cap,v=.slice a ns.length cap/\ns.length<=cap/\cap<=9223372036854775807/\(0<ns.length->∃b off,a=some ⟨b,off,none⟩/\fZ w b off ns)
def aC.below{v:BY}(h:aC w v ns)(Z:Bl w w'):aC w' v ns:=by obtain⟨a,Jb,rfl,J,I,h⟩:=h;refine⟨a,Jb,rfl,J,I,λh0=>?_⟩;obtain⟨b,Ja,rfl,U⟩:=h h0;exact⟨b,Ja,rfl,U.below Z⟩
def mY{t:JZ}{x y z:BY}(h:Below (w.heap.size+1) (w.alloc (.cells #[x,y,z] t)) w'):
  w'.cell? ⟨w.heap.size,0,none⟩=some x/\w'.cell? ⟨w.heap.size,1,none⟩=some y/\w'.cell? ⟨w.heap.size,2,none⟩=some z:=by
 refine⟨?_,?_,?_⟩ <;> (rw[h.cell i_];simp)
def sy(v:BY)(I:List Nd)(w:AT)(hT:gF w)(hl:I.length<=1048576)(U:aC w v I):
  Calls prog 92 #[v] w λe w'=>e=rW (.bool (oneB I))/\Bl w w':=by
 obtain⟨a,Jn,rfl,Jr,Jl,U⟩:=U;have HC:=ah U;clear U;go_in;go_wp2;go_loopw[3,8] (λr i wr=>∃(k:Nat) (q:Int),k<=I.length/\i=V k/\r=V q/\wholeTo (I.take k) 0=some q/\Bl w wr) (λ_ i _=>I.length-(RowKit.intOf i).toNat)
 case atStart=>exact⟨0,0,y_,rfl,rfl,rfl,r_⟩
 case round=>
  obtain⟨k,q,hk,rfl,rfl,hq,J⟩:=hrel;have HQ:=ah hq;have Je:=ks _ _ _ hq (Int.le_refl 0);have Js:q<=1048576:=by have:=Je.2;simp at this;omega
  have Jo:=Je.1;by_cases hlt:k<I.length
  ·obtain⟨b,Jq,rfl,U⟩:=HC o_;have⟨d0,d1,d2⟩:=(U.below J) k hlt;have HT:Hid (gF wr):=hT.below hT.size J;have Jp:=hT.size;have Z:Hid _:=fI I k q hlt HQ;clear U hT HC;generalize hn:I[k]=n at d0 d1 d2 Z;go_wp2_with fail;refine(Ae n _ (HT.o.below HT.o.size (ao _ _))).mono ?_;rintro e w1 ⟨rfl,Ja⟩;simp only[Bl,J9]at Ja;have Jh:=J.trans (((ao _ _).trans (Ja.mono o_)).mono J.size);cases hv:aJ n
   ·go_wp2;go_ret;refine⟨ak (qG I (k+1) ?_).symm,Jh⟩;rw[Z.o,if_neg (by simp[hv])]
   have⟨e0,e1,e2⟩:=mY Ja;have Jc:Hid (gF w1):=HT.o.below HT.o.size ((ao _ _).trans (Ja.mono o_));have Jf:=gO hv;have Jm:=dM hv;go_wp2_with fail;refine(nz n _ Jc.o Jf).mono ?_;rintro e w2 ⟨rfl,Jg⟩;have Jb:=Ja.trans (Jg.mono (by have:=Ja.size;simp at this;omega));have Jd:=J.trans (((ao _ _).trans (Jb.mono o_)).mono J.size);have⟨f0,f1,f2⟩:=mY Jb;have Ji:Hid (gF w2):=Jc.o.below Jc.o.size Jg;clear e0 e1 e2 d0 d1 d2;by_cases ha:q<arity n
   ·go_wp2;go_ret;refine⟨ak (qG I (k+1) ?_).symm,Jd⟩;rw[Z.o,if_neg o_]
   go_wp2_with fail;refine(nz n _ Ji.o Jf).mono ?_;rintro e w3 ⟨rfl,Jj⟩;have Jk:=Jd.trans (Jj.mono Jd.size);go_wp2;go_roundw
   case rel=>exact⟨k+1,q+1-arity n,o_,by go_num,by rw[show q+(1-arity n)=q+1-arity n by omega],by rw[Z.o,if_pos ⟨hv,o_⟩],Jk⟩
   case measure=>exact IF
  go_wp2;go_ret;obtain rfl:k=I.length:=(by omega);exact⟨ak (zD I q HQ).symm,J⟩
end
def Cu(n:Nd)(w:AT):Calls prog 143 #[.agg #[V n.kd,V n.val,sV n.nm]] w λe w'=>e=rW (V (arity n))/\Bl w w':=Ac n.kd n.val n.nm w
def Cv(v:BY)(I:List Nd)(w:AT)(hl:I.length<=1048576)(hg:fJ I)(J:aC w v I):
  Calls prog 131 #[v] w λe w'=>∃r,Gc I r /\ -1<=r/\r<=1048576/\e=rW (V r)/\Bl w w':=by
 obtain⟨a,Jg,rfl,Jj,Jf,J⟩:=J;have⟨HC,HG⟩:=h2 J hg;clear J hg;go_in;go_wp2;go_loopw[3,4] (λr i wr=>∃(k:Nat) (q:Int),k<=I.length/\i=V k/\r=V q/\q=defc (I.drop k)/\0<=q/\(∀j,k<j->j<=I.length->1<=defc (I.drop j))/\Bl w wr) (λ_ i _=>(RowKit.intOf i).toNat)
 case atStart=>exact⟨I.length,1,n_,rfl,rfl,by simp[defc],o_,λj h1 h2=>absurd h2 o_,r_⟩
 case round=>
  obtain⟨k,q,hk,rfl,rfl,hq,Jh,hj,Z⟩:=hrel;have Ja:=EC _ (rS HG k);have Je:q<=6291457:=by rw[hq];simp at Ja;omega
  have⟨U,HJ⟩:=h2 hq hj;clear hq hj Ja;by_cases h0:0<q
  ·by_cases hk0:k=0
   ·subst hk0;go_wp2;go_ret;refine⟨-1,.inr ⟨rfl,λj hj=>?_⟩,o_,o_,rfl,Z⟩;rcases Nat.eq_zero_or_pos j with rfl|hp
    ·rw[<-U.o];omega
    exact HJ j hp hj
   obtain⟨m,rfl⟩:∃m,k=m+1:=⟨k-1,o_⟩;obtain⟨b,Ji,rfl,J⟩:=HC o_;have⟨d0,d1,d2⟩:=(J.below Z) m o_;have Jc:=dM (HG I[m] (g_ _));have HD:Hid _:=zF I m o_;clear J HC;generalize hn:I[m]=n at d0 d1 d2 HD Jc;clear hn;have e1:((m+1:Nat):Int)-1=(m:Int):=o_;go_wp2_with fail;refine(Cu n _).mono ?_;rintro e w1 ⟨rfl,Jd⟩;have Jb:=Z.trans (Jd.mono Z.size);clear d0 d1 d2;go_wp2;go_roundw
   case rel=>refine⟨m,q-1+arity n,o_,by go_num,rfl,?_,o_,λj h1 h2=>?_,Jb⟩;rw[HD.o,<-U.o];omega;by_cases e:j=m+1;subst e;rw[<-U.o];omega;exact HJ j o_ h2
   case measure=>simp[RowKit.intOf]
  go_wp2;go_ret;refine⟨k,.inl ⟨k,rfl,?_,?_,HJ⟩,o_,o_,rfl,Z⟩;rcases Nat.lt_or_ge k I.length with h|h;exact h;exfalso
  have:=U.o
  rw[drop_of_length_le h,defc]at this;omega;rw[<-U.o];omega
def Cw{l:List Nd}{k:Nat}(I:k<l.length)(h:aJ l[k]=false):oneB l=false:=by
 cases e:oneB l;rfl
 have:=((jy l).1 e).1 _ (g_ I)
 rw[h]at this;cases this
def jX(v:BY)(I:List Nd)(w:AT)(hl:I.length<=1048576)(J:aC w v I):
  Calls prog 100 #[v] w λe w'=>e=rW (.bool (decide (I.length<=2000)&&oneB I))/\Bl w w':=by
 have HN:=ah J;obtain⟨a,Jg,rfl,Jj,Je,J⟩:=J;have HC:=ah J;clear J;by_cases h2:2000<I.length
 ·have Z:(decide (I.length<=2000)&&oneB I)=false:=by simp;omega
  rw[Z];go_in;go_wp2;go_ret;exact⟨rfl,r_⟩
 have Z:(decide (I.length<=2000)&&oneB I)=oneB I:=by rw[decide_eq_true o_];rfl
 rw[Z];clear Z;go_in;go_wp2;go_loopw[3] (λi wr=>∃(k:Nat),k<=I.length/\i=V k/\(∀n∈I.take k,aJ n=true)/\Bl w wr) (λi _=>I.length-(RowKit.intOf i).toNat)
 case atStart=>exact⟨0,y_,rfl,i_,r_⟩
 case round=>
  obtain⟨k,hk,rfl,hg,U⟩:=hrel;have HG:=ah hg;by_cases hlt:k<I.length
  ·obtain⟨b,Jh,rfl,J⟩:=HC o_;have⟨d0,d1,d2⟩:=(J.below U) k hlt;clear J HC;have HE:Hid (I.take (k+1)=I.take k++[I[k]]):=aU I k hlt;have HX:Hid (aJ I[k]=false->oneB I=false):=Cw hlt;generalize hn:I[k]=n at d0 d1 d2 HE HX;go_wp2_with fail;refine(Ad n _).mono ?_;rintro e w1 ⟨rfl,Ja⟩;have Jb:=U.trans (Ja.mono U.size);clear d0 d1 d2;cases hv:aJ n
   ·go_wp2;go_ret;exact⟨ak (HX hv).symm,Jb⟩
   go_wp2;go_roundw
   case rel=>refine⟨k+1,o_,by go_num,λm hm=>?_,Jb⟩;rw[HE.o]at hm;rcases J5.1 hm with hm|hm;exact HG m hm;rw[J7.1 hm];exact hv
   case measure=>exact IF
  have Jd:k=I.length:=o_;subst Jd;have Jc:fJ I:=(by have:=HG.o;rw[take_length]at this;exact this);have HA:=ah Jc;by_cases h0:0<I.length
  ·go_wp2_with fail;refine(Cv _ I _ hl HA (HN.o.below U)).mono ?_;rintro e w1 ⟨r,hr,Ji,Jf,rfl,Ja⟩;have HR:=ah hr;clear hr;go_wp2;go_ret;exact⟨ak (zE HA HR),U.trans (Ja.mono U.size)⟩
  go_wp2;go_ret;refine⟨ak ?_,U⟩;have:I=[]:=J3 o_;subst this;simp[oneB,wholeTo]
def fZ.up{w:AT}{b off:Nat}{ns:List Nd}(h:fZ w b off ns)(j:Nat)(hj:j<ns.length):(∀o,DO (w.alloc o) b (off+j*3) (V ns[j].kd))/\(∀o,DO (w.alloc o) b (off+j*3+1) (V ns[j].val))/\(∀o,DO (w.alloc o) b (off+j*3+2) (sV ns[j].nm)):=
 ⟨λo=>((h.below (r_.alloc n_ o)) j hj).1,λo=>((h.below (r_.alloc n_ o)) j hj).2.1,λo=>((h.below (r_.alloc n_ o)) j hj).2.2⟩
def Cy(v:BY)(I:List Nd)(w:AT)(hl:0<I.length)(hm:I.length<=1048576)(hc:aC w v I):
  Calls prog 101 #[v] w λe w'=>e=rW (.agg #[V (I[I.length-1]'(by omega)).kd,V (I[I.length-1]'(by omega)).val,sV (I[I.length-1]'(by omega)).nm])/\Bl w w':=by
 obtain⟨a,Je,rfl,Jb,Jd,hc⟩:=hc;obtain⟨b,Jc,rfl,hn⟩:=hc hl;have⟨J,Z,U⟩:=hn.up (I.length-1) o_;generalize hn:I[I.length-1]=n at J Z U⊢;obtain⟨m,Ja⟩:∃m,I.length=m+1:=⟨I.length-1,o_⟩;rw[Ja]at J Z U hl hm Jb⊢;have e1:((m+1:Nat):Int)-1=(m:Int):=o_;have e2:m+1-1=m:=o_;rw[e2]at J Z U;go_in;go_wp2_with fail;exact bodyPost_ret (v:=.agg #[V n.kd,V n.val,sV n.nm]) (by simp[results,results101,go_sem]) rfl ⟨rfl,r_.alloc n_ _⟩
section
variable{w:AT}{a:Option Addr}{cap:Nat}{ns:List Nd}
end
end Go.Proofs.YtjfmapphpijneaaGreatDoor
