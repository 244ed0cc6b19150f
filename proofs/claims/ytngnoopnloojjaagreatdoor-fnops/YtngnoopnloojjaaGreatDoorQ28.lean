import Derived.Test.YtngnoopnloojjaaGreatDoorQ06
import Derived.Deep.WholeRow
import Derived.WalkLawsBesides
import Derived.Test.YtngnoopnloojjaaGreatDoorQ04
namespace Go.Proofs.YtngnoopnloojjaaGreatDoor
open Go.Value Go.World List
open Go.Proofs.Tryz Go.RowKit
set_option linter.all false
set_option maxRecDepth 100000
set_option maxHeartbeats 0
variable[Inhabited Pick]
def dq:Array BY:=#[.nilIface,.iface 150 (.agg #[.int .u32 55]),.iface 151 (.agg #[.int .u32 111]),.iface 153 (.agg #[.int .u32 103,.int .u32 0]),.iface 154 (.agg #[.int .u32 99,.int .u32 0]),.iface 154 (.agg #[.int .u32 99,.int .u32 1]),.iface 154 (.agg #[.int .u32 99,.int .u32 4]),.iface 154 (.agg #[.int .u32 99,.int .u32 5]),.iface 154 (.agg #[.int .u32 99,.int .u32 6]),.iface 154 (.agg #[.int .u32 99,.int .u32 7]),.iface 153 (.agg #[.int .u32 3,.int .u32 2]),.iface 155 (.agg #[.int .u32 35,.int .u32 2]),.iface 153 (.agg #[.int .u32 19,.int .u32 0]),.iface 153 (.agg #[.int .u32 19,.int .u32 2]),.iface 153 (.agg #[.int .u32 19,.int .u32 3]),.iface 153 (.agg #[.int .u32 19,.int .u32 4]),.iface 153 (.agg #[.int .u32 19,.int .u32 6]),.iface 153 (.agg #[.int .u32 19,.int .u32 7]),.iface 157 (.agg #[.int .u32 19,.int .u32 1,.int .u32 0]),.iface 157 (.agg #[.int .u32 19,.int .u32 5,.int .u32 0]),.iface 157 (.agg #[.int .u32 19,.int .u32 5,.int .u32 32]),.iface 158 (.agg #[.int .u32 51,.int .u32 0,.int .u32 0]),.iface 158 (.agg #[.int .u32 51,.int .u32 0,.int .u32 32]),.iface 158 (.agg #[.int .u32 51,.int .u32 1,.int .u32 0]),.iface 158 (.agg #[.int .u32 51,.int .u32 2,.int .u32 0]),.iface 158 (.agg #[.int .u32 51,.int .u32 3,.int .u32 0]),.iface 158 (.agg #[.int .u32 51,.int .u32 4,.int .u32 0]),.iface 158 (.agg #[.int .u32 51,.int .u32 5,.int .u32 0]),.iface 158 (.agg #[.int .u32 51,.int .u32 5,.int .u32 32]),.iface 158 (.agg #[.int .u32 51,.int .u32 6,.int .u32 0]),.iface 158 (.agg #[.int .u32 51,.int .u32 7,.int .u32 0]),.iface 158 (.agg #[.int .u32 51,.int .u32 0,.int .u32 1]),.iface 158 (.agg #[.int .u32 51,.int .u32 4,.int .u32 1]),.iface 158 (.agg #[.int .u32 51,.int .u32 6,.int .u32 1]),.iface 159 (.agg #[.int .u32 115])]
def vT:Array BY:=#[.nilIface,.nilIface,.nilIface,.nilIface,.nilIface,.nilIface,.nilIface,.nilIface,.nilIface,.nilIface,.nilIface,.nilIface,.nilIface,.nilIface,.nilIface,.nilIface,.nilIface,.nilIface,.nilIface,.nilIface,.nilIface,.nilIface,.nilIface,.nilIface,.nilIface,.nilIface,.nilIface,.nilIface,.nilIface,.nilIface,.nilIface,.nilIface,.nilIface,.nilIface,.nilIface]
def Tryz.info76:(prog.info? 76).map (·.size)=some dq.size:=by kernel_rfl
def AG:(dq.all λx=>x.oneCell')=true:=by kernel_rfl
def vU:dq.size=35:=by kernel_rfl
theorem below_setCells{B b:Nat}{a:AT}(hb:B<=b):∀(vs:List BY) (o:Nat) (w:AT),Below B a w->Below B a (w.setCells b o vs)
 | [],_,_,h=>h
 | v::r,o,w,h=>below_setCells hb r (o+1) _ (h.setCell (D4 hb) v)
def mO{P:Program}{J:Func}{p:Tmp}{I:IN}(h:J.results=#[.cell p I])(tmps:Array BY)(w:AT)(b:Nat)(H:List BY)(d:TypeDesc)
  (O:tmps.getD p undef=pV b) (Z:w.rangeAt b 0 H) (Y:P.underlying I=some d) (U:d.isRow=true) (X:(P.info? I).map (·.size)=some H.length):
  (results J tmps).run P w=.ok (.agg H.toArray) w:=by
 have Ja:tmps[p]?.getD undef=pV b:=D4 O;simp[results,h,Ja,asAddr,run_loadVar_mid w b 0 I H d Z Y U X]
def mP(w:AT)(h:Array BY)(t:IN)(n:Nat)(I:n<=h.size):(w.alloc (.cells h t)).there w.heap.size 0 n:=by intro j H;rw[Nat.zero_add];refine⟨?_,frozen_of_row _ _ _ _ _ (heap_alloc_new w _)⟩;rw[cell_of_row _ _ _ _ _ _ (heap_alloc_new w _)];simp;omega
def lX(w:AT):Calls prog 29 #[] w λe w'=>e=rW (.agg dq)/\Bl w w':=by go_in;go_wp2_with(refine wpList_store_mid rfl 76 _ _ rfl w.heap.size 0 dq rfl rfl (mP w _ _ _ (Nat.le_refl 35)) Tryz.info76 AG ?_);have H:((w.alloc (.cells vT 76)).setCells w.heap.size 0 dq.toList).rangeAt w.heap.size 0 dq.toList:=rangeAt_setCells_same _ _ _ _ (mP w _ _ _ (Nat.le_refl 35));refine bodyPost_ret (v:=.agg dq) ?_ rfl ⟨rfl,below_setCells n_ _ _ _ (aq _ _)⟩;exact mO results29 _ _ w.heap.size dq.toList _ rfl H underlying76 rfl Tryz.info76
section
variable{w W W':AT}{b:Nat}
def BU{ops:Array Oper}{Ja:List Oper}{op:Oper}{a:Act}{Q:Exit->Act->AT->Prop}(Jc:op.guard=none)(x y:Operand)(O:op.op=.store 76 x y)
  (w1:AT) (J:w=w1.alloc (.cells vT 76)) (X:a.eval x=pV w1.heap.size) (U:a.eval y=.agg dq)
  (h:∀W2:AT,(∀j,j<35->W2.cell? ⟨w1.heap.size,j,none⟩=dq[j]?)->Bl w1 W2->w1.heap.size<W2.heap.size->wpList prog ops Q Ja (a.put op.dst undef) W2):
  wpList prog ops Q (op::Ja) a w:=by
 subst J;have H:=mP w1 vT 76 35 (Nat.le_refl 35);refine wpList_store_mid Jc 76 x y O w1.heap.size 0 dq X U H Tryz.info76 AG (h _ ?_ ?_ ?_);intro j I;have Jb:j<dq.toList.length:=I;have:=cell?_setCells_in w1.heap.size dq.toList 0 _ (λi hi=>(H i hi).1) j Jb;rw[Nat.zero_add]at this;rw[this];simp;exact below_setCells n_ _ _ _ (aq _ _)
 have:(w1.alloc (.cells vT 76)).heap.size<=((w1.alloc (.cells vT 76)).setCells w1.heap.size 0 dq.toList).heap.size:=(below_setCells (B:=0) y_ dq.toList 0 _ r_).size
 simp at this;omega
def pK{w':AT}{t:IN}{a b c d e:BY}(h:Below (w.heap.size+1) (w.alloc (.cells #[a,b,c,d,e] t)) w'):
  w'.cell? ⟨w.heap.size,0,none⟩=some a/\w'.cell? ⟨w.heap.size,1,none⟩=some b/\w'.cell? ⟨w.heap.size,2,none⟩=some c/\w'.cell? ⟨w.heap.size,3,none⟩=some d/\w'.cell? ⟨w.heap.size,4,none⟩=some e:=by
 refine⟨?_,?_,?_,?_,?_⟩ <;> (rw[h.cell i_];simp)
def later(H:Bl W W'){o:Nat}{v:BY}(h:W.cell? ⟨b,o,none⟩=some v):W'.cell? ⟨b,o,none⟩=some v:=by rw[H.cell (p:=⟨b,o,none⟩) (b_ h)];exact h
def je{c j:Nat}{v0 v1 v2 v3 v4 t:BY}(hb:Bl W W')
  (k:Bo W b 0 v0/\Bo W b 1 v1/\Bo W b 2 v2/\Bo W b 3 v3/\Bo W b 4 v4) (h:Bo W c j t):
  (Bo W' b 0 v0/\Bo W' b 1 v1/\Bo W' b 2 v2/\Bo W' b 3 v3/\Bo W' b 4 v4)/\Bo W' c j t:=
 ⟨⟨later hb k.1,later hb k.2.1,later hb k.2.2.1,later hb k.2.2.2.1,later hb k.2.2.2.2⟩,later hb h⟩
def vV(W:AT):Bl W W.drew:=r_.drew
end
def Pe(op:Int)(h:18<=op/\op<=20):dq[op.toNat]? =some (.iface 157 (.agg #[.int .u32 (oc op),.int .u32 (f3 op),.int .u32 (f7 op)])):=by obtain⟨n,rfl⟩:∃n:Nat,op=n:=⟨op.toNat,o_⟩;have H:n=18\/n=19\/n=20:=o_;rcases H with rfl|rfl|rfl;all_goals rfl
def P8(a b c:Int)(W:AT):(method 541 157 (.agg #[.int .u32 a,.int .u32 b,.int .u32 c]) "loop.example/s01725/impl.word").run prog W=.ok (317,.agg #[.int .u32 a,.int .u32 b,.int .u32 c]) W:=by kernel_rfl
def P9(a b c:Int)(W:AT):(method 541 157 (.agg #[.int .u32 a,.int .u32 b,.int .u32 c]) "loop.example/s01725/impl.inst").run prog W=.ok (316,.agg #[.int .u32 a,.int .u32 b,.int .u32 c]) W:=by kernel_rfl
def Pf(op:Int)(h:op=11):dq[op.toNat]? =some (.iface 155 (.agg #[.int .u32 (oc op),.int .u32 (f3 op)])):=by subst h;rfl
def Qa(a b:Int)(W:AT):(method 541 155 (.agg #[.int .u32 a,.int .u32 b]) "loop.example/s01725/impl.word").run prog W=.ok (315,.agg #[.int .u32 a,.int .u32 b]) W:=by kernel_rfl
def Qb(a b:Int)(W:AT):(method 541 155 (.agg #[.int .u32 a,.int .u32 b]) "loop.example/s01725/impl.inst").run prog W=.ok (314,.agg #[.int .u32 a,.int .u32 b]) W:=by kernel_rfl
def Ph(op:Int)(h:4<=op/\op<=9):dq[op.toNat]? =some (.iface 154 (.agg #[.int .u32 (oc op),.int .u32 (f3 op)])):=by obtain⟨n,rfl⟩:∃n:Nat,op=n:=⟨op.toNat,o_⟩;have H:n=4\/n=5\/n=6\/n=7\/n=8\/n=9:=o_;rcases H with rfl|rfl|rfl|rfl|rfl|rfl;all_goals rfl
def Qc(a b:Int)(W:AT):(method 541 154 (.agg #[.int .u32 a,.int .u32 b]) "loop.example/s01725/impl.word").run prog W=.ok (311,.agg #[.int .u32 a,.int .u32 b]) W:=by kernel_rfl
def Qd(a b:Int)(W:AT):(method 541 154 (.agg #[.int .u32 a,.int .u32 b]) "loop.example/s01725/impl.inst").run prog W=.ok (310,.agg #[.int .u32 a,.int .u32 b]) W:=by kernel_rfl
def Pi(op:Int)(h:op=1):dq[op.toNat]? =some (.iface 150 (.agg #[.int .u32 (oc op)])):=by subst h;rfl
def Qe(a:Int)(W:AT):(method 541 150 (.agg #[.int .u32 a]) "loop.example/s01725/impl.word").run prog W=.ok (298,.agg #[.int .u32 a]) W:=by kernel_rfl
def Qf(a:Int)(W:AT):(method 541 150 (.agg #[.int .u32 a]) "loop.example/s01725/impl.inst").run prog W=.ok (297,.agg #[.int .u32 a]) W:=by kernel_rfl
def Pj(op:Int)(h:op=2):dq[op.toNat]? =some (.iface 151 (.agg #[.int .u32 (oc op)])):=by subst h;rfl
def Qg(a:Int)(W:AT):(method 541 151 (.agg #[.int .u32 a]) "loop.example/s01725/impl.word").run prog W=.ok (303,.agg #[.int .u32 a]) W:=by kernel_rfl
def Qh(a:Int)(W:AT):(method 541 151 (.agg #[.int .u32 a]) "loop.example/s01725/impl.inst").run prog W=.ok (302,.agg #[.int .u32 a]) W:=by kernel_rfl
def Pk(op:Int)(h:op=34):dq[op.toNat]? =some (.iface 159 (.agg #[.int .u32 (oc op)])):=by subst h;rfl
def Qi(a:Int)(W:AT):(method 541 159 (.agg #[.int .u32 a]) "loop.example/s01725/impl.word").run prog W=.ok (321,.agg #[.int .u32 a]) W:=by kernel_rfl
def Qj(a:Int)(W:AT):(method 541 159 (.agg #[.int .u32 a]) "loop.example/s01725/impl.inst").run prog W=.ok (320,.agg #[.int .u32 a]) W:=by kernel_rfl
def Pl(op:Int)(h:21<=op/\op<=33):dq[op.toNat]? =some (.iface 158 (.agg #[.int .u32 (oc op),.int .u32 (f3 op),.int .u32 (f7 op)])):=by obtain⟨n,rfl⟩:∃n:Nat,op=n:=⟨op.toNat,o_⟩;have H:n=21\/n=22\/n=23\/n=24\/n=25\/n=26\/n=27\/n=28\/n=29\/n=30\/n=31\/n=32\/n=33:=o_;rcases H with rfl|rfl|rfl|rfl|rfl|rfl|rfl|rfl|rfl|rfl|rfl|rfl|rfl;all_goals rfl
def Qk(a b c:Int)(W:AT):(method 541 158 (.agg #[.int .u32 a,.int .u32 b,.int .u32 c]) "loop.example/s01725/impl.word").run prog W=.ok (319,.agg #[.int .u32 a,.int .u32 b,.int .u32 c]) W:=by kernel_rfl
def Ql(a b c:Int)(W:AT):(method 541 158 (.agg #[.int .u32 a,.int .u32 b,.int .u32 c]) "loop.example/s01725/impl.inst").run prog W=.ok (318,.agg #[.int .u32 a,.int .u32 b,.int .u32 c]) W:=by kernel_rfl
def Pm(op:Int)(h:op=3\/op=10\/(12<=op/\op<=17)):dq[op.toNat]? =some (.iface 153 (.agg #[.int .u32 (oc op),.int .u32 (f3 op)])):=by obtain⟨n,rfl⟩:∃n:Nat,op=n:=⟨op.toNat,o_⟩;have H:n=3\/n=10\/n=12\/n=13\/n=14\/n=15\/n=16\/n=17:=o_;rcases H with rfl|rfl|rfl|rfl|rfl|rfl|rfl|rfl;all_goals rfl
def Qm(a b:Int)(W:AT):(method 541 153 (.agg #[.int .u32 a,.int .u32 b]) "loop.example/s01725/impl.word").run prog W=.ok (306,.agg #[.int .u32 a,.int .u32 b]) W:=by kernel_rfl
def Qn(a b:Int)(W:AT):(method 541 153 (.agg #[.int .u32 a,.int .u32 b]) "loop.example/s01725/impl.inst").run prog W=.ok (305,.agg #[.int .u32 a,.int .u32 b]) W:=by kernel_rfl
def wF(n rd s1 s2 im:Int):Int:=
 if n=1 then oc n+rd%32*128+im%1048576*4096 else
 if n=2 then oc n+rd%32*128+im / 4096%256*4096+im / 2048%2*1048576+im / 2%1024*2097152+im / 1048576%2*2147483648 else
 if 4<=n/\n<=9 then oc n+im / 2048%2*128+im / 2%16*256+f3 n*4096+s1%32*32768+s2%32*1048576+im / 32%64*33554432+im / 4096%2*2147483648 else
 if n=11 then oc n+im%32*128+f3 n*4096+s1%32*32768+s2%32*1048576+im / 32%128*33554432 else
 if 18<=n/\n<=20 then oc n+rd%32*128+f3 n*4096+s1%32*32768+im%32*1048576+f7 n*33554432 else
 if 21<=n/\n<=33 then oc n+rd%32*128+f3 n*4096+s1%32*32768+s2%32*1048576+f7 n*33554432 else
 if n=34 then oc n else
 oc n+rd%32*128+f3 n*4096+s1%32*32768+im%4096*1048576
def iF(n v:Int):Int×Int×Int×Int:=
 if n=1 then(v / 128%32,0,0,v / 4096%1048576)else
 if n=2 then(v / 128%32,0,0,sg (v / 2097152%1024*2+v / 1048576%2*2048+v / 4096%256*4096+v / 2147483648%2*1048576) 1048576 2097152)else
 if 4<=n/\n<=9 then(0,v / 32768%32,v / 1048576%32,sg (v / 256%16*2+v / 33554432%64*32+v / 128%2*2048+v / 2147483648%2*4096) 4096 8192)else
 if n=11 then(0,v / 32768%32,v / 1048576%32,sg (v / 128%32+v / 33554432%128*32) 2048 4096)else
 if 18<=n/\n<=20 then(v / 128%32,v / 32768%32,0,v / 1048576%32)else
 if 21<=n/\n<=33 then(v / 128%32,v / 32768%32,v / 1048576%32,0)else
 if n=34 then(0,0,0,0)else
 (v / 128%32,v / 32768%32,0,sg (v / 1048576%4096) 2048 4096)
def H8(n:Int):Prop:=∃(T:IN) (cv:BY) (fw fi:Nat),dq[n.toNat]? =some (.iface T cv) /\
 (∀W:AT,(method 541 T cv "loop.example/s01725/impl.word").run prog W=.ok (fw,cv) W)/\(∀W:AT,(method 541 T cv "loop.example/s01725/impl.inst").run prog W=.ok (fi,cv) W) /\
 (∀(v:Int) (W:AT),0<=v/\v<=4294967295->Calls prog fi #[cv,.int .u32 v] W λe w'=>e=rW (.agg #[V 0,V (iF n v).1,V (iF n v).2.1,V (iF n v).2.2.1,V (iF n v).2.2.2])/\Bl W w') /\
 (∀(op rd s1 s2 im:Int) (W:AT),Calls prog fw #[cv,.agg #[V op,V rd,V s1,V s2,V im]] W λe w'=>e=rW (.int .u32 (wF n rd s1 s2 im))/\Bl W w') /\
 (∀(x y:BY) (W:AT),(callFunc fw #[x,y]).run prog W=.ok (.enter fw #[x,y]) W)/\(∀(x y:BY) (W:AT),(callFunc fi #[x,y]).run prog W=.ok (.enter fi #[x,y]) W)
def Qo(n:Int)(h:n=1):H8 n:=by
 have I:∀rd s1 s2 im,wF n rd s1 s2 im=oc n+rd%32*128+im%1048576*4096:=λrd s1 s2 im=>by unfold wF;(repeat rw[if_neg o_]);try rw[if_pos o_]
 have H:∀v,iF n v=(v / 128%32,0,0,v / 4096%1048576):=λv=>by unfold iF;(repeat rw[if_neg o_]);try rw[if_pos o_]
 refine⟨_,_,_,_,Pi n h,λW=>Qe _ W,λW=>Qf _ W,λv W hv=>by rw[H];exact M_ _ v W hv,λop rd s1 s2 im W=>by rw[I];exact MR _ op rd s1 s2 im W (lU n),λx y W=>?_,λx y W=>?_⟩;all_goals kernel_rfl
def Qp(n:Int)(h:n=2):H8 n:=by
 have I:∀rd s1 s2 im,wF n rd s1 s2 im=oc n+rd%32*128+im / 4096%256*4096+im / 2048%2*1048576+im / 2%1024*2097152+im / 1048576%2*2147483648:=λrd s1 s2 im=>by unfold wF;(repeat rw[if_neg o_]);try rw[if_pos o_]
 have H:∀v,iF n v=(v / 128%32,0,0,sg (v / 2097152%1024*2+v / 1048576%2*2048+v / 4096%256*4096+v / 2147483648%2*1048576) 1048576 2097152):=λv=>by unfold iF;(repeat rw[if_neg o_]);try rw[if_pos o_]
 refine⟨_,_,_,_,Pj n h,λW=>Qg _ W,λW=>Qh _ W,λv W hv=>by rw[H];exact M0 _ v W hv,λop rd s1 s2 im W=>by rw[I];exact MS _ op rd s1 s2 im W (lU n),λx y W=>?_,λx y W=>?_⟩;all_goals kernel_rfl
def Qq(n:Int)(h:4<=n/\n<=9):H8 n:=by
 have I:∀rd s1 s2 im,wF n rd s1 s2 im=oc n+im / 2048%2*128+im / 2%16*256+f3 n*4096+s1%32*32768+s2%32*1048576+im / 32%64*33554432+im / 4096%2*2147483648:=λrd s1 s2 im=>by unfold wF;(repeat rw[if_neg o_]);try rw[if_pos o_]
 have H:∀v,iF n v=(0,v / 32768%32,v / 1048576%32,sg (v / 256%16*2+v / 33554432%64*32+v / 128%2*2048+v / 2147483648%2*4096) 4096 8192):=λv=>by unfold iF;(repeat rw[if_neg o_]);try rw[if_pos o_]
 refine⟨_,_,_,_,Ph n h,λW=>Qc _ _ W,λW=>Qd _ _ W,λv W hv=>by rw[H];exact MZ _ _ v W hv,λop rd s1 s2 im W=>by rw[I];exact MQ _ _ op rd s1 s2 im W (lU n) (sj n),λx y W=>?_,λx y W=>?_⟩;all_goals kernel_rfl
def Qr(n:Int)(h:n=11):H8 n:=by
 have I:∀rd s1 s2 im,wF n rd s1 s2 im=oc n+im%32*128+f3 n*4096+s1%32*32768+s2%32*1048576+im / 32%128*33554432:=λrd s1 s2 im=>by unfold wF;(repeat rw[if_neg o_]);try rw[if_pos o_]
 have H:∀v,iF n v=(0,v / 32768%32,v / 1048576%32,sg (v / 128%32+v / 33554432%128*32) 2048 4096):=λv=>by unfold iF;(repeat rw[if_neg o_]);try rw[if_pos o_]
 refine⟨_,_,_,_,Pf n h,λW=>Qa _ _ W,λW=>Qb _ _ W,λv W hv=>by rw[H];exact MY _ _ v W hv,λop rd s1 s2 im W=>by rw[I];exact MP _ _ op rd s1 s2 im W (lU n) (sj n),λx y W=>?_,λx y W=>?_⟩;all_goals kernel_rfl
def Qs(n:Int)(h:18<=n/\n<=20):H8 n:=by
 have I:∀rd s1 s2 im,wF n rd s1 s2 im=oc n+rd%32*128+f3 n*4096+s1%32*32768+im%32*1048576+f7 n*33554432:=λrd s1 s2 im=>by unfold wF;(repeat rw[if_neg o_]);try rw[if_pos o_]
 have H:∀v,iF n v=(v / 128%32,v / 32768%32,0,v / 1048576%32):=λv=>by unfold iF;(repeat rw[if_neg o_]);try rw[if_pos o_]
 refine⟨_,_,_,_,Pe n h,λW=>P8 _ _ _ W,λW=>P9 _ _ _ W,λv W hv=>by rw[H];exact MX _ _ _ v W hv,λop rd s1 s2 im W=>by rw[I];exact MO _ _ _ op rd s1 s2 im W (lU n) (sj n) (Eg n),λx y W=>?_,λx y W=>?_⟩;all_goals kernel_rfl
def Qt(n:Int)(h:21<=n/\n<=33):H8 n:=by
 have I:∀rd s1 s2 im,wF n rd s1 s2 im=oc n+rd%32*128+f3 n*4096+s1%32*32768+s2%32*1048576+f7 n*33554432:=λrd s1 s2 im=>by unfold wF;(repeat rw[if_neg o_]);try rw[if_pos o_]
 have H:∀v,iF n v=(v / 128%32,v / 32768%32,v / 1048576%32,0):=λv=>by unfold iF;(repeat rw[if_neg o_]);try rw[if_pos o_]
 refine⟨_,_,_,_,Pl n h,λW=>Qk _ _ _ W,λW=>Ql _ _ _ W,λv W hv=>by rw[H];exact MU _ _ _ v W hv,λop rd s1 s2 im W=>by rw[I];exact MN _ _ _ op rd s1 s2 im W (lU n) (sj n) (Eg n),λx y W=>?_,λx y W=>?_⟩;all_goals kernel_rfl
def Qu(n:Int)(h:n=34):H8 n:=by
 have I:∀rd s1 s2 im,wF n rd s1 s2 im=oc n:=λrd s1 s2 im=>by unfold wF;(repeat rw[if_neg o_]);try rw[if_pos o_]
 have H:∀v,iF n v=(0,0,0,0):=λv=>by unfold iF;(repeat rw[if_neg o_]);try rw[if_pos o_]
 refine⟨_,_,_,_,Pk n h,λW=>Qi _ W,λW=>Qj _ W,λv W hv=>by rw[H];exact M4 _ v W hv,λop rd s1 s2 im W=>by rw[I];exact MT _ op rd s1 s2 im W (lU n),λx y W=>?_,λx y W=>?_⟩;all_goals kernel_rfl
def Qv(n:Int)(h:n=3\/n=10\/(12<=n/\n<=17)):H8 n:=by
 have I:∀rd s1 s2 im,wF n rd s1 s2 im=oc n+rd%32*128+f3 n*4096+s1%32*32768+im%4096*1048576:=λrd s1 s2 im=>by unfold wF;(repeat rw[if_neg o_]);try rw[if_pos o_]
 have H:∀v,iF n v=(v / 128%32,v / 32768%32,0,sg (v / 1048576%4096) 2048 4096):=λv=>by unfold iF;(repeat rw[if_neg o_]);try rw[if_pos o_]
 refine⟨_,_,_,_,Pm n h,λW=>Qm _ _ W,λW=>Qn _ _ W,λv W hv=>by rw[H];exact MV _ _ v W hv,λop rd s1 s2 im W=>by rw[I];exact Kn _ _ op rd s1 s2 im W (lU n) (sj n),λx y W=>?_,λx y W=>?_⟩;all_goals kernel_rfl
def EK(n:Int)(h:1<=n/\n<=34):H8 n:=by
 have:n=1\/n=2\/(4<=n/\n<=9)\/n=11\/(18<=n/\n<=20)\/(21<=n/\n<=33)\/n=34\/(n=3\/n=10\/(12<=n/\n<=17)):=by omega
 rcases this with h|h|h|h|h|h|h|h;exact Qo n h;exact Qp n h;exact Qq n h;exact Qr n h;exact Qs n h;exact Qt n h;exact Qu n h;exact Qv n h
section
variable{w w':AT}{t:IN}{a b c d e:BY}
def Nu(h:Below (w.heap.size+1) (w.alloc (.cells #[a,b,c,d,e] t)) w'):
  Bo w' w.heap.size 0 a/\Bo w' w.heap.size 1 b/\Bo w' w.heap.size 2 c/\Bo w' w.heap.size 3 d/\Bo w' w.heap.size 4 e:=pK h
def Nv(op rd s1 s2 im:Int)(w:AT)(h:op<1\/34<op):
  Calls prog 134 #[.agg #[V op,V rd,V s1,V s2,V im]] w λe w'=>e=rW (.int .u32 0)/\Bl w w':=by
 rcases h with h|h;all_goals
  go_in;go_wp2;go_ret;exact⟨rfl,r_.alloc n_ _⟩
def tT(op rd s1 s2 im:Int):Int:=if 1<=op/\op<=34 then(if iF op (wF op rd s1 s2 im)=(rd,s1,s2,im)then wF op rd s1 s2 im else 0)else 0
def Nw(n rd s1 s2 im:Int):0<=wF n rd s1 s2 im/\wF n rd s1 s2 im<=4294967295:=by
 have o1:=lU n;have H:=sj n;have h:=Eg n;unfold wF;repeat' split
 all_goals omega
theorem H9(op rd s1 s2 im:Int)(w:World)(h:1<=op/\op<=34):
  Calls prog 134 #[.agg #[V op,V rd,V s1,V s2,V im]] w λe w'=>e=rW (.int .u32 (tT op rd s1 s2 im))/\Below w.heap.size w w':=by
 have⟨T,cv,fw,fi,Jb,mw,mi,hi,hw,cw,ci⟩:=EK op h;have Jm:1<=op:=h.1;have Jj:op<=34:=h.2;have Jk:0<=op:=o_;have Jn:op<35:=o_;have⟨R,H⟩:=q_ (tT op rd s1 s2 im);rw[<-H];unfold tT at H;rw[if_pos h]at H;have⟨X,Z⟩:=q_ (wF op rd s1 s2 im);have Jf:=Nw op rd s1 s2 im;rw[<-Z]at H Jf;obtain⟨I,O,J,U,Y⟩:∃I O J U,iF op X=(I,O,J,U):=⟨_,_,_,_,rfl⟩;have HI:Hid (∀W:World,Calls prog fi #[cv,.int .u32 X] W λe w'=>e=rW (.agg #[V 0,V I,V O,V J,V U])/\Bl W w'):=λW=>by
  have:=hi X W Jf
  rw[Y]at this;exact this
 have HW:Hid (∀W:World,Calls prog fw #[cv,.agg #[V op,V rd,V s1,V s2,V im]] W λe w'=>e=rW (.int .u32 X)/\Bl W w'):=λW=>by
  have:=hw op rd s1 s2 im W
  rw[<-Z]at this;exact this
 rw[Y]at H;have Ji:Hid (I=rd/\O=s1/\J=s2/\U=im->X=R):=λhv=>by rw[H,if_pos (by rw[hv.1,hv.2.1,hv.2.2.1,hv.2.2.2])]
 have Jh:Hid (¬(I=rd/\O=s1/\J=s2/\U=im)->0=R):=λhv=>by rw[H,if_neg (λe=>hv (by simpa[Prod.mk.injEq]using e))]
 have HT:=ah Jb;clear h H Z Jf Y hi hw Jb;go_in;go_wp2_with fail;refine(lX _).mono ?_;rintro e w1 ⟨rfl,Jd⟩;simp only[Bl,World.size_alloc]at Jd;have z1:=Jd.size;simp only[Bl,World.size_alloc]at z1;go_wp2_with(refine BU rfl _ _ rfl w1 rfl rfl rfl ?_;intro W2 hT Jg Jl;have Ja:=Jd.trans (Jg.mono z1);have k2:=pK Ja;have t2:=(hT op.toNat o_).trans HT;clear hT Jg Jd)
 simp only[Act.put];go_region_held3 (λW=>W.cell? ⟨w.heap.size,0,none⟩=some (V op)/\W.cell? ⟨w.heap.size,1,none⟩=some (V rd)/\W.cell? ⟨w.heap.size,2,none⟩=some (V s1)/\W.cell? ⟨w.heap.size,3,none⟩=some (V s2)/\W.cell? ⟨w.heap.size,4,none⟩=some (V im) /\
   W.cell? ⟨w1.heap.size,op.toNat,none⟩=some (.iface T cv)) (go_simp)
  (first
  | (refine(HW.out _).mono ?_;rintro e w3 ⟨rfl,Je⟩;have q3:=je (W:=W2.drew) Je k2 t2))
 go_wp2_with fail;refine(HI.out _).mono ?_;rintro e w4 ⟨rfl,Jc⟩;have q4:=je Jc q3.1 q3.2;have z3:W2.heap.size<=w3.heap.size:=Je.size;have z4:w.heap.size<w4.heap.size:=by have:=Jc.size;omega
 have HB:Hid (Bl w w4):=((r_.alloc (Nat.le_refl w.heap.size) _).trans (Ja.mono o_)).trans (((vV W2).trans Je).mono o_ |>.trans (Jc.mono o_));clear q3 Je Jc Ja k2 t2 HI HW;go_wp2
 all_goals go_ret
 all_goals refine⟨dL ?_,?_⟩
 all_goals first
  | exact Ji.out o_
  | exact Jh.out o_
  | exact HB.out.alloc o_ _
def AH(op rd s1 s2 im:Int)(w:AT):
  Calls prog 134 #[.agg #[V op,V rd,V s1,V s2,V im]] w λe w'=>e=rW (.int .u32 (tT op rd s1 s2 im))/\Bl w w':=by
 by_cases h:1<=op/\op<=34;exact H9 op rd s1 s2 im w h;rw[show tT op rd s1 s2 im=0 by unfold tT;rw[if_neg h]];exact Nv op rd s1 s2 im w o_
def Ia(op rd s1 s2 im:Int)(w:AT):
  Calls prog 170 #[.agg #[V op,V rd,V s1,V s2,V im]] w λe w'=>e=rW (.bool (!(tT op rd s1 s2 im == 0)))/\Bl w w':=by
 have H:=ah λ(W:AT)=>AH op rd s1 s2 im W;generalize tT op rd s1 s2 im=R at H⊢;go_in;go_wp2_with fail;refine(H.o _).mono ?_;rintro e w1 ⟨rfl,Ja⟩;simp only[Bl,K9]at Ja;have I:Hid (Bl w w1):=(r_.alloc (Nat.le_refl w.heap.size) _).trans (Ja.mono o_);go_wp2
 all_goals go_ret
 all_goals exact⟨by simp_all [bne],I⟩
def tU(n:Nat)(v a b c d R:Int):Prop:=∃(T:IN) (cv:BY) (fw fi:Nat),dq[n]? =some (.iface T cv) /\
 (∀W:AT,(method 541 T cv "loop.example/s01725/impl.word").run prog W=.ok (fw,cv) W)/\(∀W:AT,(method 541 T cv "loop.example/s01725/impl.inst").run prog W=.ok (fi,cv) W) /\
 (∀W:AT,Calls prog fi #[cv,.int .u32 v] W λe w'=>e=rW (.agg #[V 0,V a,V b,V c,V d])/\Bl W w') /\
 (∀W:AT,Calls prog fw #[cv,.agg #[V 0,V a,V b,V c,V d]] W λe w'=>e=rW (.int .u32 R)/\Bl W w') /\
 (∀(x y:BY) (W:AT),(callFunc fw #[x,y]).run prog W=.ok (.enter fw #[x,y]) W)/\(∀(x y:BY) (W:AT),(callFunc fi #[x,y]).run prog W=.ok (.enter fi #[x,y]) W)
def Nx(h:Below (w.heap.size+1) (w.alloc (.cells #[a,b,c,d,e] t)) w'):∀j,w'.frozen? ⟨w.heap.size,j,none⟩=false:=λj=>by rw[h.frozen i_];simp
theorem JN{f:BY}(h:Below (w.heap.size+1) (w.alloc (.cells #[a,b,c,d,e,f] t)) w'):
  (w'.cell? ⟨w.heap.size,0,none⟩=some a/\w'.cell? ⟨w.heap.size,1,none⟩=some b/\w'.cell? ⟨w.heap.size,2,none⟩=some c/\w'.cell? ⟨w.heap.size,3,none⟩=some d/\w'.cell? ⟨w.heap.size,4,none⟩=some e/\w'.cell? ⟨w.heap.size,5,none⟩=some f) /\
  ∀j,w'.frozen? ⟨w.heap.size,j,none⟩=false:=by
 refine⟨⟨?_,?_,?_,?_,?_,?_⟩,λj=>?_⟩;all_goals first
  | (rw[h.cell i_];simp)
  | (rw[h.frozen i_];simp)
theorem Ib(v:Int)(hv:0<=v/\v<=4294967295)(H I K:Nat)(hK:1<=K/\K<=34)(a b c d:Int)(hH:tU K v a b c d v)
  (hM:∀n:Nat,1<=n->n<K->∃a b c d R:Int,(R == v)=false/\tU n v a b c d R) (w:World) (Jk:H<w.heap.size) (hT:∀j,j<35->w.cell? ⟨H,I+j,none⟩=dq[j]?):
  Calls prog 61 #[.pointer (some ⟨H,I,none⟩),.int .u32 v] w λe w'=>e=rW (.agg #[.bool true,V K,V a,V b,V c,V d])/\Below w.heap.size w w':=by
 have HH:=ah hH;have HM:=ah hM;have HT:=ah hT;go_in;go_wp2;go_loopw[5] (λi wr=>∃n:Nat,1<=n/\n<=K/\i=V n/\Below (w.heap.size+1) (w.alloc (.cells #[.bool false,V 0,V 0,V 0,V 0,V 0] 86)) wr)
  (λi _=>35-(RowKit.intOf i).toNat)
 case atStart=>exact⟨1,o_,o_,rfl,r_⟩
 case round=>
  obtain⟨n,Ji,Jo,rfl,X⟩:=hrel;have z0:=X.size;simp only[World.size_alloc]at z0;have Jh:n<=34:=o_;have Jn:(0:Int)<=(n:Int):=o_;have Jl:(n:Int)<35:=o_;have Jg:wr.cell? ⟨H,I+n,none⟩=dq[n]? := (X.cell (p:=⟨H,I+n,none⟩) (by simp;omega)).trans (((r_.alloc (Nat.le_refl w.heap.size) _).cell (p:=⟨H,I+n,none⟩) Jk).trans (HT.out n o_));by_cases hlt:n<K
  ·have⟨O,J,c',U,R,hR,T,Z,fw,fi,Jb,mw,mi,hi,hw,cw,ci⟩:=HM.out n Ji hlt;have tc:=Jg.trans Jb;have GI:=ah hi;have GW:=ah hw;go_wp2_with fail;refine(GI.out _).mono ?_;rintro e w1 ⟨rfl,Jc⟩;have Jf:=X.trans (Jc.mono z0);have z1:=Jc.size;have hA:=(Below.refl w1.heap.size w1).alloc (Nat.le_refl w1.heap.size) (.cells #[V 0,V O,V J,V c',V U] 84);have t1:=later hA (later Jc tc);have Y:=pK (Below.refl (w1.heap.size+1) (w1.alloc (.cells #[V 0,V O,V J,V c',V U] 84)));go_wp2_with fail;go_region_held3 (λW=>W.cell? ⟨w1.heap.size,0,none⟩=some (V 0)/\W.cell? ⟨w1.heap.size,1,none⟩=some (V O)/\W.cell? ⟨w1.heap.size,2,none⟩=some (V J)/\W.cell? ⟨w1.heap.size,3,none⟩=some (V c')/\W.cell? ⟨w1.heap.size,4,none⟩=some (V U) /\
     W.cell? ⟨H,I+n,none⟩=some (.iface T Z)) (go_simp)
    (first
    | (refine(GW.out _).mono ?_;rintro e w2 ⟨rfl,Jd⟩;have q2:=je (W:=(w1.alloc (.cells #[.int .i64 0,.int .i64 O,.int .i64 J,.int .i64 c',.int .i64 U] 84)).drew) Jd Y t1))
   have Ja:Below (w1.heap.size+1) (w1.alloc (.cells #[V 0,V O,V J,V c',V U] 84)) w2:=(r_.drew).trans (Jd.mono i_);have Je:=Jf.trans ((r_.alloc (Nat.le_refl w1.heap.size) _ |>.trans (Ja.mono (Nat.le_succ _))).mono (by omega:w.heap.size+1<=w1.heap.size));have Jj:=ah Je;go_wp2;go_roundw
   case rel=>exact⟨n+1,o_,o_,by go_num,Jj⟩
   case measure=>simp[RowKit.intOf];omega
  obtain rfl:n=K:=(by omega);have⟨T,Z,fw,fi,Jb,mw,mi,hi,hw,cw,ci⟩:=HH.out;have tc:=Jg.trans Jb;have GI:=ah hi;have GW:=ah hw;go_wp2_with fail;refine(GI.out _).mono ?_;rintro e w1 ⟨rfl,Jc⟩;have Jf:=X.trans (Jc.mono z0);have z1:=Jc.size;have hA:=(Below.refl w1.heap.size w1).alloc (Nat.le_refl w1.heap.size) (.cells #[V 0,V a,V b,V c,V d] 84);have t1:=later hA (later Jc tc);have Y:=pK (Below.refl (w1.heap.size+1) (w1.alloc (.cells #[V 0,V a,V b,V c,V d] 84)));go_wp2_with fail;go_region_held3 (λW=>W.cell? ⟨w1.heap.size,0,none⟩=some (V 0)/\W.cell? ⟨w1.heap.size,1,none⟩=some (V a)/\W.cell? ⟨w1.heap.size,2,none⟩=some (V b)/\W.cell? ⟨w1.heap.size,3,none⟩=some (V c)/\W.cell? ⟨w1.heap.size,4,none⟩=some (V d) /\
    W.cell? ⟨H,I+n,none⟩=some (.iface T Z)) (go_simp)
   (first
   | (refine(GW.out _).mono ?_;rintro e w2 ⟨rfl,Jd⟩;have q2:=je (W:=(w1.alloc (.cells #[.int .i64 0,.int .i64 a,.int .i64 b,.int .i64 c,.int .i64 d] 84)).drew) Jd Y t1))
  have Ja:Below (w1.heap.size+1) (w1.alloc (.cells #[V 0,V a,V b,V c,V d] 84)) w2:=(r_.drew).trans (Jd.mono i_);have Je:=Jf.trans ((r_.alloc (Nat.le_refl w1.heap.size) _ |>.trans (Ja.mono (Nat.le_succ _))).mono (by omega:w.heap.size+1<=w1.heap.size));have g2:=Nx Ja;have⟨r2,f2⟩:=JN Je;have HB:Hid (Bl w w2):=(aq _ _).trans (Je.mono o_);have Jm:w.heap.size<w1.heap.size:=o_;go_wp2;refine bodyPost_ret (v:=.agg #[.bool true,V n,V a,V b,V c,V d]) (by simp[results,results61,go_sem,r2,f2]) rfl ⟨rfl,?_⟩;exact((((((HB.out.setCell (by dsimp only;omega) _).setCell i_ _).setCell i_ _).setCell i_ _).setCell i_ _).setCell i_ _).setCell i_ _
def pL(n:Nat)(h:1<=n/\n<=34)(v:Int)(hv:0<=v/\v<=4294967295):tU n v (iF n v).1 (iF n v).2.1 (iF n v).2.2.1 (iF n v).2.2.2 (wF n (iF n v).1 (iF n v).2.1 (iF n v).2.2.1 (iF n v).2.2.2):=by have⟨T,Y,I,Z,Ja,X,mi,J,H,U,O⟩:=EK (n:Int) o_;exact⟨T,Y,I,Z,D4 Ja,X,mi,λW=>J v W hv,λW=>H 0 _ _ _ _ W,U,O⟩
end
def eR(x:Ins):Int:=tT x.op x.rd x.s1 x.s2 x.im
def eV(x:Ins):Bool:= !(eR x == 0)
def lY(x:Ins)(w:AT):Calls prog 134 #[.agg #[V x.op,V x.rd,V x.s1,V x.s2,V x.im]] w λe w'=>e=rW (.int .u32 (eR x))/\Bl w w':=AH _ _ _ _ _ w
def EL(x:Ins)(w:AT):Calls prog 170 #[.agg #[V x.op,V x.rd,V x.s1,V x.s2,V x.im]] w λe w'=>e=rW (.bool (eV x))/\Bl w w':=Ia _ _ _ _ _ w
def My(op:Int):Int:=if op%2=0 then op+1 else op-1
def xN(it:It)(far:Int)(l:Bool):List Int:=
 if it.kd=1 then[eR it.ins]
 else if it.kd=3 then(if l then[eR {it.ins with op:=My it.ins.op,im:=8},eR ⟨2,0,0,0,far-4⟩]else[eR {it.ins with im:=far}])
 else if it.kd=4 then[eR ⟨2,0,0,0,far⟩]
 else if it.kd=5 then[eR ⟨2,1,0,0,far⟩]
 else[]
def AI(h:It)(Ja:Int)(l:Bool):(xN h Ja l).length<=2:=by
 unfold xN;split
 simp
 split;split <;> simp
 split
 simp
 split <;> simp
def vW(w:AT)(v:BY)(us:List Int):Prop:=∃a cap,v=.slice a us.length cap/\(a=none->us=[])/\∀ad,a=some ad->∀j u,(us.map (Value.int .u32))[j]? =some u->w.cell? (ad.add j)=some u
def EM(w:AT):vW w nV []:=⟨none,0,rfl,λ_=>rfl,λad h=>by cases h⟩
def addr_add(g j:Nat):(⟨g,0,none⟩:Addr).add j=⟨g,j,none⟩:=by simp only[Addr.add];split <;> simp_all
theorem tV(w:AT)(x:Int)(t:IN):vW (w.alloc (.cells #[.int .u32 x] t)) (rV w.heap.size 1 1) [x]:=by
 refine⟨_,1,rfl,(λh=>by cases h),λad h j u hj=>?_⟩;obtain rfl:=Option.some.inj h;rw[addr_add];match j with
 | 0=>simp at hj;subst hj;simp
 | (j+1)=>simp at hj
theorem KT(w:AT)(x y:Int)(t:IN):vW (w.alloc (.cells #[.int .u32 x,.int .u32 y] t)) (rV w.heap.size 2 2) [x,y]:=by
 refine⟨_,2,rfl,(λh=>by cases h),λad h j u hj=>?_⟩;obtain rfl:=Option.some.inj h;rw[addr_add];match j with
 | 0=>simp at hj;subst hj;simp
 | 1=>simp at hj;subst hj;simp
 | (j+2)=>simp at hj
def pM(k d:Int)(w:AT):Calls prog 136 #[V k,V d] w λe w'=>e=rW (.int .u32 (eR ⟨2,k,0,0,d⟩))/\Bl w w':=by have H:=ah λ(w:AT)=>lY ⟨2,k,0,0,d⟩ w;go_in;go_wp2_with fail;refine(H.o _).mono ?_;rintro e w1 ⟨rfl,I⟩;go_wp2;go_ret;exact⟨rfl,I⟩
def Ic(op:Int)(h:4<=op/\op<=9)(w:AT):Calls prog 173 #[V op] w λe w'=>e=rW (V (My op))/\w'=w:=by
 obtain⟨I,h2⟩:=h;have H:op=4\/op=5\/op=6\/op=7\/op=8\/op=9:=o_;rcases H with rfl|rfl|rfl|rfl|rfl|rfl;all_goals
  go_in;go_wp2;go_ret;exact⟨rfl,rfl⟩
section
variable{w w':AT}
def AJ(x:Ins):Bool:=decide (x.op=0/\x.rd=0/\x.s1=0/\x.s2=0/\x.im=0)
def gM(it:It):Bool:=
 if it.label<0 then false
 else if it.kd=1 then eV it.ins&&decide (it.label=0)
 else if it.kd=3 then decide (4<=it.ins.op/\it.ins.op<=9)&&decide (it.ins.im=0)&&eV it.ins
 else if it.kd=2\/it.kd=4\/it.kd=5 then AJ it.ins
 else false
def Qw(it:It):BY:=.agg #[V it.kd,V it.ins.op,V it.ins.rd,V it.ins.s1,V it.ins.s2,V it.ins.im,V it.label]
def jB{a:Obj}(h:Below (w.heap.size+1) (w.alloc a) w'):Bl w w':=
 (r_.alloc n_ a).trans (h.mono o_)
def Ny{t:IN}{a b c d e f g:BY}(h:Below (w.heap.size+1) (w.alloc (.cells #[a,b,c,d,e,f,g] t)) w'):
  w'.cell? ⟨w.heap.size,0,none⟩=some a/\w'.cell? ⟨w.heap.size,1,none⟩=some b/\w'.cell? ⟨w.heap.size,2,none⟩=some c/\w'.cell? ⟨w.heap.size,3,none⟩=some d/\w'.cell? ⟨w.heap.size,4,none⟩=some e/\w'.cell? ⟨w.heap.size,5,none⟩=some f/\w'.cell? ⟨w.heap.size,6,none⟩=some g:=by
 refine⟨?_,?_,?_,?_,?_,?_,?_⟩ <;> (rw[h.cell i_];simp)
def KU(k lb:Int)(w:AT)(H:k=2\/k=4\/k=5)(h:0<=lb):Calls prog 130 #[.agg #[V k,V 0,V 0,V 0,V 0,V 0,V lb]] w λe w'=>e=rW (.bool true)/\Bl w w':=by
 rcases H with rfl|rfl|rfl;all_goals
  go_in;go_wp2;go_ret;exact⟨rfl,r_.alloc n_ _⟩
def Nz(k op rd s1 s2 im lb:Int)(w:AT)(H:k=2\/k=4\/k=5)(h:0<=lb)(I:¬(op=0/\rd=0/\s1=0/\s2=0/\im=0)):Calls prog 130 #[.agg #[V k,V op,V rd,V s1,V s2,V im,V lb]] w λe w'=>e=rW (.bool false)/\Bl w w':=by
 have hc:¬op=0\/¬rd=0\/¬s1=0\/¬s2=0\/¬im=0:=o_;rcases H with rfl|rfl|rfl <;> rcases hc with hc|hc|hc|hc|hc;all_goals
  go_in;go_wp2;go_ret;exact⟨rfl,r_.alloc n_ _⟩
def Pn(k op rd s1 s2 im lb:Int)(w:AT)(h:lb<0):Calls prog 130 #[.agg #[V k,V op,V rd,V s1,V s2,V im,V lb]] w λe w'=>e=rW (.bool false)/\Bl w w':=by go_in;go_wp2;go_ret;exact⟨rfl,r_.alloc n_ _⟩
def NA(k op rd s1 s2 im lb:Int)(w:AT)(h:0<=lb)(H:¬k=1)(h2:¬k=2)(h3:¬k=3)(h4:¬k=4)(h5:¬k=5):Calls prog 130 #[.agg #[V k,V op,V rd,V s1,V s2,V im,V lb]] w λe w'=>e=rW (.bool false)/\Bl w w':=by go_in;go_wp2;go_ret;exact⟨rfl,r_.alloc n_ _⟩
def BV(O:It)(w:AT):Calls prog 130 #[Qw O] w λe w'=>e=rW (.bool (gM O))/\Bl w w':=by
 obtain⟨k,x,H⟩:=O;by_cases hn:H<0;rw[show gM ⟨k,x,H⟩=false from if_pos hn];exact Pn k x.op x.rd x.s1 x.s2 x.im H w hn;have I:=ah λ(w:AT)=>EL x w;by_cases h1:k=1
 ·subst h1;rw[show gM ⟨1,x,H⟩=(eV x&&decide (H=0)) by simp[gM,hn]];show Calls _ _ #[.agg #[V 1,V x.op,V x.rd,V x.s1,V x.s2,V x.im,V H]] _ _;generalize eV x=b at I⊢;obtain⟨op,rd,s1,s2,im⟩:=x;simp only at I⊢;go_in;go_wp2_with fail;refine(I.o _).mono ?_;rintro e w1 ⟨rfl,Jb⟩;simp only[Bl,K9]at Jb;have Ja:=jB Jb;obtain⟨-,-,-,-,-,-,c6⟩:=Ny Jb;cases b
  ·go_wp2;go_ret;exact⟨rfl,Ja⟩
  by_cases h0:H=0
  ·subst h0;go_wp2;go_ret;exact⟨rfl,Ja⟩
  have HD:Hid (decide (H=0)=false):=decide_eq_false h0;go_wp2;go_ret;exact⟨sd (by rw[HD.o];simpa using h0),Ja⟩
 by_cases h3:k=3
 ·subst h3;rw[show gM ⟨3,x,H⟩=(decide (4<=x.op/\x.op<=9)&&decide (x.im=0)&&eV x) by simp[gM,hn]];show Calls _ _ #[.agg #[V 3,V x.op,V x.rd,V x.s1,V x.s2,V x.im,V H]] _ _;generalize eV x=b at I⊢;obtain⟨op,rd,s1,s2,im⟩:=x;simp only at I⊢;by_cases ho1:4<=op
  ·by_cases ho2:op<=9
   ·by_cases hi:im=0
    ·subst hi;rw[show(decide (4<=op/\op<=9)&&decide ((0:Int)=0)&&b)=b by simp[ho1,ho2]];go_in;go_wp2_with fail;refine(I.o _).mono ?_;rintro e w1 ⟨rfl,Jb⟩;simp only[Bl,K9]at Jb;have Ja:=jB Jb;cases b
     ·go_wp2;go_ret;exact⟨rfl,Ja⟩
     go_wp2;go_ret;exact⟨rfl,Ja⟩
    rw[show(decide (4<=op/\op<=9)&&decide (im=0)&&b)=false by simp[hi]];go_in;go_wp2;go_ret;exact⟨rfl,r_.alloc n_ _⟩
   rw[show(decide (4<=op/\op<=9)&&decide (im=0)&&b)=false by simp[ho2]];go_in;go_wp2;go_ret;exact⟨rfl,r_.alloc n_ _⟩
  rw[show(decide (4<=op/\op<=9)&&decide (im=0)&&b)=false by simp[ho1]];go_in;go_wp2;go_ret;exact⟨rfl,r_.alloc n_ _⟩
 by_cases h2:k=2\/k=4\/k=5;have J:gM ⟨k,x,H⟩=AJ x:=by unfold gM;rw[if_neg hn,if_neg h1,if_neg h3,if_pos h2]
 rw[J];by_cases hz:x.op=0/\x.rd=0/\x.s1=0/\x.s2=0/\x.im=0;rw[show AJ x=true from decide_eq_true hz];obtain⟨Y,X,Z,e4,U⟩:=hz;show Calls _ _ #[.agg #[V k,V x.op,V x.rd,V x.s1,V x.s2,V x.im,V H]] _ _;rw[Y,X,Z,e4,U];exact KU k H w h2 o_;rw[show AJ x=false from decide_eq_false hz];exact Nz k x.op x.rd x.s1 x.s2 x.im H w h2 o_ hz;have J:gM ⟨k,x,H⟩=false:=by unfold gM;rw[if_neg hn,if_neg h1,if_neg h3,if_neg h2]
 rw[J];exact NA k x.op x.rd x.s1 x.s2 x.im H w o_ h1 (λh=>h2 (.inl h)) h3 (λh=>h2 (.inr (.inl h))) (λh=>h2 (.inr (.inr h)))
end
section
variable{w w':AT}
def Pc.below{b o:Nat}{I:It}{a:Int}{v:BY}{l:Bool}(h:Pc w b o I a v l)(H:Bl w w'):Pc w' b o I a v l:=by have Ja:b<w.heap.size:=b_ h.c0;exact⟨(H.cell (p:=⟨b,o,none⟩) Ja).trans h.c0,(H.cell (p:=⟨b,o+1,none⟩) Ja).trans h.c1,(H.cell (p:=⟨b,o+2,none⟩) Ja).trans h.c2,(H.cell (p:=⟨b,o+3,none⟩) Ja).trans h.c3,(H.cell (p:=⟨b,o+4,none⟩) Ja).trans h.c4,(H.cell (p:=⟨b,o+5,none⟩) Ja).trans h.c5,(H.cell (p:=⟨b,o+6,none⟩) Ja).trans h.c6,(H.cell (p:=⟨b,o+7,none⟩) Ja).trans h.c7,(H.cell (p:=⟨b,o+8,none⟩) Ja).trans h.c8,(H.cell (p:=⟨b,o+9,none⟩) Ja).trans h.c9⟩
def NB{o:Obj}{H:Array BY}{t:IN}(h:Below (w.heap.size+1) (w.alloc (.cells H t)) w')(k:Nat):w'.frozen? ⟨w.heap.size,k,none⟩=false:=by rw[h.frozen (p:=⟨w.heap.size,k,none⟩) i_];simp
def BX(b o U X:Nat)(J Jm:It)(a I:Int)(v2:BY)(l l2:Bool)(w:AT)(h:Pc w b o J a (.pointer (some ⟨U,X,none⟩)) l)(h2:Pc w U X Jm I v2 l2)(ha:0<=a/\a<=1000000000)(Jk:0<=I/\I<=1000000000)(hk:J.kd=3)(ho:4<=J.ins.op/\J.ins.op<=9):
  Calls prog 135 #[.pointer (some ⟨b,o,none⟩)] w λe w'=>∃v,e=rW v/\vW w' v (xN J (I-a) l)/\Bl w w':=by
 have H:=ah h;have H2:=ah h2;have Jq:b<w.heap.size:=b_ h.c0;obtain⟨_,c1,c2,c3,c4,c5,_,_,_,c9⟩:=h;clear h2;have O:Hid (xN J (I-a) l=if l then[eR {J.ins with op:=My J.ins.op,im:=8},eR ⟨2,0,0,0,I-a-4⟩]else[eR {J.ins with im:=I-a}]):=by show _=_;unfold xN;rw[if_neg o_,if_pos hk]
 obtain⟨kd,⟨op,rd,s1,s2,im⟩,Jn⟩:=J;simp only at c1 c2 c3 c4 c5 ho O;have Z:Bl w (w.alloc (.cells #[V op,V rd,V s1,V s2,V im] 84)):=aq _ _;have Jf:=((H.o.below Z).c9);cases l
 ·have Jc:=ah (O);clear O;go_in;go_wp2_with fail;refine(j3 b o U X _ _ a I _ _ _ _ (H.o.below Z) (H2.o.below Z) ha Jk).mono ?_;rintro e w1 ⟨rfl,Jd⟩;simp only[Bl,K9]at Jd;have Jl:=jB Jd;have⟨y0,y1,y2,y3,y4⟩:=Nu Jd;have f4:=NB (o:=.cells #[] 0) Jd 4;have Jp:w.heap.size<w1.heap.size:=by have:=Jd.size;simp at this;omega
  have Jb:=ah λ(w:AT)=>lY ⟨op,rd,s1,s2,I-a⟩ w;generalize eR ⟨op,rd,s1,s2,I-a⟩=R at Jb Jc;generalize I-a=d at Jb⊢;clear c1 c2 c3 c4 c5 c9 Jf;go_wp2_with fail;refine(Jb.o _).mono ?_;rintro e w2 ⟨rfl,Je⟩;have Ja:Bl w w2:=(Jl.setCell (p:=⟨w.heap.size,4,none⟩) n_ _).trans (Je.mono Do);clear y0 y1 y2 y3 y4 f4;go_wp2;go_ret;exact⟨_,rfl,by rw[Jc.o];exact tV w2 R _,Ja.alloc Ja.size _⟩
 have Jc:=ah (O);clear O;go_in;go_wp2_with fail;refine(Ic op ho _).mono ?_;rintro e w1 ⟨rfl,rfl⟩;have Jb:=ah λ(w:AT)=>lY ⟨My op,rd,s1,s2,8⟩ w;have Y:=ah λ(w:AT)=>pM 0 (I-a-4) w;generalize eR ⟨My op,rd,s1,s2,8⟩=R at Jb Jc;generalize eR ⟨2,0,0,0,I-a-4⟩=R2 at Y Jc;generalize My op=op2 at Jb⊢;clear c1 c2 c3 c4 c5 c9;go_wp2_with fail;refine(Jb.o _).mono ?_;rintro e w2 ⟨rfl,Je⟩;have Ja:Bl w w2:=((Below.refl w.heap.size w).alloc n_ _).trans (Je.mono i_);clear Je Jf;go_wp2_with fail;refine(j3 b o U X _ _ a I _ _ _ _ (H.o.below Ja) (H2.o.below Ja) ha Jk).mono ?_;rintro e w3 ⟨rfl,Ji⟩;have Jj:=Ja.trans (Ji.mono Ja.size);have⟨d,hd⟩:=q_ (I-a);rw[<-hd]at Y⊢;have Jo: -1000000000<=d/\d<=1000000000:=o_
 clear hd Ji;go_wp2_with fail;refine(Y.o _).mono ?_;rintro e w4 ⟨rfl,Jh⟩;have Jg:=Jj.trans (Jh.mono Jj.size);clear Jh;go_wp2;go_ret;exact⟨_,rfl,by rw[Jc.o];exact KT w4 R R2 _,Jg.alloc Jg.size _⟩
def NC(w:AT)(it:It)(v:BY)(a2:Int):Prop:=it.kd=3\/it.kd=4\/it.kd=5->∃b2 o2 it2 v2 l2,v=.pointer (some ⟨b2,o2,none⟩)/\Pc w b2 o2 it2 a2 v2 l2
def EN(b o:Nat)(I:It)(a J:Int)(v:BY)(l:Bool)(w:AT)(h:Pc w b o I a v l)(h2:NC w I v J)(ha:0<=a/\a<=1000000000)(Jg:0<=J/\J<=1000000000)(ho:I.kd=3->4<=I.ins.op/\I.ins.op<=9):
  Calls prog 83 #[.pointer (some ⟨b,o,none⟩)] w λe w'=>∃v,e=rW v/\vW w' v (xN I (J-a) l)/\Bl w w':=by
 have H:=ah h;have H2:=ah h2;have HO:=ah ho;obtain⟨X,c1,c2,c3,c4,c5,_,_,_,_⟩:=h;by_cases h1:I.kd=1
 ·have O:Hid (xN I (J-a) l=[eR I.ins]):=if_pos h1;have Ji:=ah λ(w:AT)=>lY I.ins w;rw[h1]at X;generalize eR I.ins=R at Ji O;go_in;go_wp2_with fail;refine(Ji.o _).mono ?_;rintro e w1 ⟨rfl,Ja⟩;go_wp2;go_ret;exact⟨_,rfl,by rw[O.o];exact tV w1 R _,Ja.alloc Ja.size _⟩
 by_cases h3:I.kd=3
 ·obtain⟨b2,Y,Jc,Z,l2,rfl,Jb⟩:=H2.o (.inl h3);have Je:=ah Jb;have HK:=ah h3;rw[h3]at X;go_in;go_wp2_with fail;refine(BX b o b2 Y I Jc a J Z l l2 w H.o Je.o ha Jg HK.o (HO.o HK)).mono ?_;rintro e w1 ⟨v1,rfl,Jh,Ja⟩;have Jj:=ah Jh;obtain⟨a1,c1,rfl,-⟩:=Jh;go_wp2;go_ret;exact⟨_,rfl,Jj,Ja⟩
 by_cases h4:I.kd=4
 ·obtain⟨b2,Y,Jc,Z,l2,rfl,Jb⟩:=H2.o (.inr (.inl h4));have Je:=ah Jb;have O:Hid (xN I (J-a) l=[eR ⟨2,0,0,0,J-a⟩]):=by show _=_;unfold xN;rw[if_neg h1,if_neg h3,if_pos h4]
  have U:=ah λ(w:AT)=>pM 0 (J-a) w;rw[h4]at X;generalize eR ⟨2,0,0,0,J-a⟩=R at U O;go_in;go_wp2_with fail;refine(j3 b o b2 Y I Jc a J Z l l2 w H.o Je.o ha Jg).mono ?_;rintro e w1 ⟨rfl,Ja⟩;generalize J-a=d at U⊢;go_wp2_with fail;refine(U.o _).mono ?_;rintro e w2 ⟨rfl,Jf⟩;have Jd:=Ja.trans (Jf.mono Ja.size);go_wp2;go_ret;exact⟨_,rfl,by rw[O.o];exact tV w2 R _,Jd.alloc Jd.size _⟩
 by_cases h5:I.kd=5
 ·obtain⟨b2,Y,Jc,Z,l2,rfl,Jb⟩:=H2.o (.inr (.inr h5));have Je:=ah Jb;have O:Hid (xN I (J-a) l=[eR ⟨2,1,0,0,J-a⟩]):=by show _=_;unfold xN;rw[if_neg h1,if_neg h3,if_neg h4,if_pos h5]
  have U:=ah λ(w:AT)=>pM 1 (J-a) w;rw[h5]at X;generalize eR ⟨2,1,0,0,J-a⟩=R at U O;go_in;go_wp2_with fail;refine(j3 b o b2 Y I Jc a J Z l l2 w H.o Je.o ha Jg).mono ?_;rintro e w1 ⟨rfl,Ja⟩;generalize J-a=d at U⊢;go_wp2_with fail;refine(U.o _).mono ?_;rintro e w2 ⟨rfl,Jf⟩;have Jd:=Ja.trans (Jf.mono Ja.size);go_wp2;go_ret;exact⟨_,rfl,by rw[O.o];exact tV w2 R _,Jd.alloc Jd.size _⟩
 have O:Hid (xN I (J-a) l=[]):=by show _=_;unfold xN;rw[if_neg h1,if_neg h3,if_neg h4,if_neg h5]
 generalize I.kd=kd at X h1 h3 h4 h5;go_in;go_wp2;go_ret;exact⟨_,rfl,by rw[O.o];exact EM w,r_⟩
end
section
variable{D:DataW Unit}{its:List It}{x:It}{W w w':AT}{b nn:Nat}{lab:Int}
structure fK (D:DataW Unit) (its:List It):Prop where
 map:Maps.IsMap D
 has:∀lab,Maps.has D (.int .i64 lab)= !(dD its lab).isEmpty
 val:∀lab k,dD its lab=[k]->D.atKey (.int .i64 lab) (.lit (.int .i64 0))=.lit (.int .i64 (k:Int))
 one:∀lab,(dD its lab).length<=1
theorem fK.nil:fK (.map []) []:=⟨Maps.isMap_empty,λlab=>rfl,λlab k h=>by simp[dD]at h,λlab=>by simp[dD]⟩
def fK.skip(h:fK D its)(H:x.kd≠2):fK D (its++[x]):=by
 have Ja:∀lab,dD (its++[x]) lab=dD its lab:=λlab=>by rw[posL_snoc];simp[Jz,H]
 exact⟨h.map,λlab=>by rw[Ja];exact h.has lab,λlab k hk=>by rw[Ja]at hk;exact h.val lab k hk,λlab=>by rw[Ja];exact h.one lab⟩
theorem fK.put(h:fK D its)(H:x.kd=2)(I:dD its x.label=[]):fK (D.put (.int .i64 x.label) (.lit (.int .i64 (its.length:Int)))) (its++[x]):=by
 have Jb:dD (its++[x]) x.label=[its.length]:=by rw[posL_snoc,I];simp[Jz,H]
 have Ja:∀lab,lab≠x.label->dD (its++[x]) lab=dD its lab:=λlab hl=>by rw[posL_snoc];have:Jz x lab=false:=decide_eq_false (λh=>hl h.2.symm);rw[this];simp
 have Jc:∀lab,lab≠x.label->(Lit.int .i64 lab)≠.int .i64 x.label:=λlab hl e=>hl (by injection e);refine⟨h.map.put _ _,λlab=>?_,λlab k hk=>?_,λlab=>?_⟩
 by_cases e:lab=x.label;subst e;rw[Maps.has_put_same (k:=.int .i64 x.label) h.map trivial,Jb];rfl;rw[Maps.has_put_other (Jc lab e),Ja lab e];exact h.has lab;by_cases e:lab=x.label;subst e;rw[Jb]at hk;rw[Maps.atKey_put_same (k:=.int .i64 x.label) h.map trivial];simp at hk;rw[hk];rw[Maps.atKey_put_other (Jc lab e)];rw[Ja lab e]at hk;exact h.val lab k hk;by_cases e:lab=x.label;subst e;rw[Jb];simp;rw[Ja lab e];exact h.one lab
theorem vX(Jb:W.ownsMap prog 2 (plainElem (H:=Unit) prog 3) b nn D)(U:fK D its)(X:(Lit.int .i64 lab).wf=true){k:Nat}(h:dD its lab=[k]):
  (Instr.lookup 277 (.map (some b)) (V lab) true).run prog W=.ok (.tuple #[V (k:Int),.bool true]) W:=by
 have⟨v,ps,Ja,J⟩:=Jb.look_ok (Maps.int_keyed underlying2) underlying277 (zeroValue3 _) (plainElem_int underlying3 d_) (Maps.keyOf_int_mk underlying2 X);rw[U.val lab k h]at J;obtain⟨c,rfl,I,_⟩:=plainElem_int_inv underlying3 J;simp only[Prod.mk.injEq,DataW.lit.injEq,Lit.int.injEq,true_and]at I;obtain⟨I,-⟩:=I;subst I;have O:=U.has lab;rw[h]at O;rw[O]at Ja;exact Ja
def vY(Jb:W.ownsMap prog 2 (plainElem (H:=Unit) prog 3) b nn D)(X:fK D its)(U:(Lit.int .i64 lab).wf=true)(h:dD its lab=[]):
  (Instr.lookup 277 (.map (some b)) (V lab) true).run prog W=.ok (.tuple #[V 0,.bool false]) W:=by
 have⟨v,ps,Ja,O⟩:=Jb.look_ok (Maps.int_keyed underlying2) underlying277 (zeroValue3 _) (plainElem_int underlying3 d_) (Maps.keyOf_int_mk underlying2 U);have J:=X.has lab;rw[h]at J;rw[Maps.atKey_of_not_has J]at O;obtain⟨c,rfl,I,_⟩:=plainElem_int_inv underlying3 O;simp only[Prod.mk.injEq,DataW.lit.injEq,Lit.int.injEq,true_and]at I;obtain⟨I,-⟩:=I;subst I;rw[J]at Ja;exact Ja
theorem fK.cases(h:fK D its)(lab:Int):dD its lab=[]\/∃k,dD its lab=[k]:=by
 have:=h.one lab
 match e:dD its lab with
 | []=>exact .inl rfl
 | [k]=>exact .inr ⟨k,rfl⟩
 | a::b::r=>rw[e]at this;simp at this
def tX(w:AT)(b off:Nat)(its:List It):Prop:=∀j (h:j<its.length),
 w.cell? ⟨b,off+j*7,none⟩=some (V its[j].kd)/\w.cell? ⟨b,off+j*7+1,none⟩=some (V its[j].ins.op)/\w.cell? ⟨b,off+j*7+2,none⟩=some (V its[j].ins.rd)/\w.cell? ⟨b,off+j*7+3,none⟩=some (V its[j].ins.s1)/\w.cell? ⟨b,off+j*7+4,none⟩=some (V its[j].ins.s2)/\w.cell? ⟨b,off+j*7+5,none⟩=some (V its[j].ins.im)/\w.cell? ⟨b,off+j*7+6,none⟩=some (V its[j].label)
def tX.below{off:Nat}(h:tX w b off its)(H:Bl w w'):tX w' b off its:=by intro j O;have⟨I,c1,J,U,Z,X,Y⟩:=h j O;have Ja:=b_ I;exact⟨(H.cell Ja).trans I,(H.cell (p:=⟨b,off+j*7+1,none⟩) Ja).trans c1,(H.cell (p:=⟨b,off+j*7+2,none⟩) Ja).trans J,(H.cell (p:=⟨b,off+j*7+3,none⟩) Ja).trans U,(H.cell (p:=⟨b,off+j*7+4,none⟩) Ja).trans Z,(H.cell (p:=⟨b,off+j*7+5,none⟩) Ja).trans X,(H.cell (p:=⟨b,off+j*7+6,none⟩) Ja).trans Y⟩
def kV(w:AT)(v:BY)(its:List It):Prop:=∃a cap,v=.slice a its.length cap/\its.length<=cap/\cap<=9223372036854775807/\(0<its.length->∃b off,a=some ⟨b,off,none⟩/\tX w b off its)
def kV.below{v:BY}(h:kV w v its)(O:Bl w w'):kV w' v its:=by obtain⟨a,Jb,rfl,I,H,h⟩:=h;refine⟨a,Jb,rfl,I,H,λh0=>?_⟩;obtain⟨b,Ja,rfl,J⟩:=h h0;exact⟨b,Ja,rfl,J.below O⟩
end
section
variable{its:List It}{k B0 g B n bm nn cap:Nat}{w wr:AT}{vb:BY}{pa:Option Addr}{A:Nat->Int}{D:DataW Unit}{G:Nat->BY}
def EO:(prog.info? 215).map (λi=>(i.zero,i.size,i.bytes))=some (some (.pointer none),1,8):=by kernel_rfl
def qM(its:List It)(k:Nat):List Nat:=(List.range k).filter (λi=>decide ((its.getD i cV).kd=3))
def Id(h:(its.getD k cV).kd=3):qM its (k+1)=qM its k++[k]:=by unfold qM;rw[range_succ,filter_append];simp only[filter_cons,filter_nil,h,decide_true,if_true]
def EP(h:(its.getD k cV).kd≠3):qM its (k+1)=qM its k:=by unfold qM;rw[range_succ,filter_append];simp only[filter_cons,filter_nil,decide_eq_false h,Bool.false_eq_true,if_false,append_nil]
def Ie(its:List It)(k:Nat):(qM its k).length<=k:=by
 have:=length_filter_le (λi=>decide ((its.getD i cV).kd=3)) (List.range k)
 simpa[qM]using this
def qW(g:Nat)(bs:List Nat):List BY:=bs.map (λi=>Value.pointer (some ⟨g,i*10,none⟩))
def ptrs_snoc(g:Nat)(bs:List Nat)(i:Nat):qW g (bs++[i])=qW g bs++[.pointer (some ⟨g,i*10,none⟩)]:=by simp[qW]
def EQ{bs:List Nat}(h:w.ownsRow B0 215 1 vb bs.length (qW g bs))(Jd:∀x,vb.ownBlock=some x->x≠g):yo w g vb bs:=by have I:=h;rcases h.2 with⟨rfl,J⟩|⟨H,Jc,Je,rfl,Jf,O,Jb,Jg,Jh,Ja⟩;exact⟨none,0,by rw[J],o_,λh=>absurd h o_⟩;refine⟨_,Jc,rfl,Jb,λ_=>⟨H,rfl,Jd H rfl,(ownsRow.lt I H rfl).2,λj hj=>?_⟩⟩;have:=ownsRow.cells I (g:=H) rfl j (.pointer (some ⟨g,bs[j]*10,none⟩)) (by simp[qW,hj]);rw[addr_add]at this;exact this
structure xO (w wr:AT) (B B0 g n bm nn:Nat) (pa:Option Addr) (cap:Nat) (its:List It) (A:Nat->Int) (L:Nat->Bool) (D:DataW Unit) (k:Nat) (vb:BY) (G:Nat->BY):Prop where
 box:wr.cell? ⟨B,0,none⟩=some (.slice pa n cap)
 box1:wr.cell? ⟨B,1,none⟩=some vb
 free:wr.frozen? ⟨B,1,none⟩=false
 row:cO wr g n its A G L
 brs:wr.ownsRow B0 215 1 vb (qM its k).length (qW g (qM its k))
 ne:∀x,vb.ownBlock=some x->x≠g/\x≠B/\x≠bm
 map:wr.ownsMap prog 2 (plainElem (H:=Unit) prog 3) bm nn D
 seen:∀j,j<k->(its.getD j cV).kd≠1->(dD its (its.getD j cV).label).length=1
 go:∀j,j<k->(its.getD j cV).kd≠1->(its.getD j cV).kd≠2->G j=.pointer (some ⟨g,mD its j*10,none⟩)
 bel:Below B0 w wr
 size:w.heap.size<=wr.heap.size
def xO.shape{L:Nat->Bool}(h:xO w wr B B0 g n bm nn pa cap its A L D k vb G):∃a c,vb=.slice a (qM its k).length c:=by rcases h.brs.2 with⟨rfl,H⟩|⟨I,c,Ja,rfl,_⟩;exact⟨none,0,by rw[H]⟩;exact⟨_,c,rfl⟩
def xO.skip{L:Nat->Bool}(h:xO w wr B B0 g n bm nn pa cap its A L D k vb G)(H:(its.getD k cV).kd=1\/(its.getD k cV).kd=2)(I:(its.getD k cV).kd=2->(dD its (its.getD k cV).label).length=1):xO w wr B B0 g n bm nn pa cap its A L D (k+1) vb G:=by refine {h with brs:= ?_,seen:=λj hj h1=>?_,go:=λj hj h1 h2=>?_};rw[EP (by rcases H with H|H <;> omega)];exact h.brs;by_cases e:j=k;subst e;exact I (by rcases H with H|H;exact absurd H h1;exact H);exact h.seen j o_ h1;by_cases e:j=k;subst e;rcases H with H|H;exact absurd H h1;exact absurd H h2;exact h.go j o_ h1 h2
theorem xO.goal{L:Nat->Bool}(h:xO w wr B B0 g n bm nn pa cap its A L D k vb G)(J:k<n)(O:B≠g)(I:bm≠g)(X:B0<=g)(H:(dD its (its.getD k cV).label).length=1)(u:BY)(U:u=.pointer (some ⟨g,mD its k*10,none⟩)):
  xO w (wr.setCell ⟨g,k*10+8,none⟩ u) B B0 g n bm nn pa cap its A L D k vb (upd G k u)/\(∀j,j<k+1->(its.getD j cV).kd≠1->(dD its (its.getD j cV).label).length=1)/\(∀j,j<k+1->(its.getD j cV).kd≠1->(its.getD j cV).kd≠2->upd G k u j=.pointer (some ⟨g,mD its j*10,none⟩)):=by
 have Jb:∀o,(⟨g,k*10+8,none⟩:Addr)≠⟨B,o,none⟩:=λo h=>by simp only[Addr.mk.injEq]at h;exact O h.1.symm
 have Jc:wr.grownBy (wr.setCell ⟨g,k*10+8,none⟩ u) (some g):=by have Ja:=(Below.refl 0 wr).setCell (p:=⟨g,k*10+8,none⟩) y_ u;exact⟨Ja.os,Ja.tape,Ja.output,Ja.size,λi _ hi=>Below.heap_setCell _ _ _ i (λe=>hi (by rw[e]))⟩
 refine⟨⟨?_,?_,?_,h.row.goal k J u,?_,h.ne,h.map.kept Jc (D4 I),h.seen,λj hj h1 h2=>?_,h.bel.setCell X u,D4 h.size⟩,λj hj h1=>?_,λj hj h1 h2=>?_⟩;rw[s_ _ _ _ _ (Jb 0)];exact h.box;rw[s_ _ _ _ _ (Jb 1)];exact h.box1;rw[frozen?_setCell];exact h.free;exact h.brs.kept Jc (by
  cases e:vb.ownBlock with
  | none=>exact .inl rfl
  | some x=>exact .inr (λh'=>(h.ne x e).1 (by injection h')))
 rw[gd _ _ _ _ o_];exact h.go j hj h1 h2;by_cases e:j=k;subst e;exact H;exact h.seen j o_ h1;by_cases e:j=k;subst e;rw[upd_same,U];rw[gd _ _ _ _ e];exact h.go j o_ h1 h2
theorem xO.branch{w1:AT}{L:Nat->Bool}{v1:BY}{o:Obj}(h:xO w wr B B0 g n bm nn pa cap its A L D k vb G)(hk:(its.getD k cV).kd=3)(hB:B≠g)(hm:bm≠B)(hb:B0<=B)(Jf:B<wr.heap.size)(Jg:g<wr.heap.size)
  (h1:∀j,j<k+1->(its.getD j cV).kd≠1->(dD its (its.getD j cV).label).length=1) (h2:∀j,j<k+1->(its.getD j cV).kd≠1->(its.getD j cV).kd≠2->G j=.pointer (some ⟨g,mD its j*10,none⟩))
  (ho:w1.ownsRow B0 215 1 v1 ((qM its k).length+1) (qW g (qM its k)++[.pointer (some ⟨g,k*10,none⟩)])) (X:(wr.alloc o).grownBy w1 vb.ownBlock) (hf:∀x,v1.ownBlock=some x->vb.ownBlock=some x\/(wr.alloc o).heap.size<=x):
  xO w (w1.setCell ⟨B,1,none⟩ v1) B B0 g n bm nn pa cap its A L D (k+1) v1 G/\Bo w1 B 1 vb/\By w1 B 1:=by
 have Jd:=h.map.lt;have O:∀x,x<wr.heap.size->(∀y,vb.ownBlock=some y->y≠x)->w1.heap[x]? =wr.heap[x]? := λx hx hy=>by rw[X.block x Do (λe=>hy x e.symm rfl)];exact Below.heap_alloc _ _ x hx
 have Z:=O B Jf (λy hy=>(h.ne y hy).2.1);have Y:=O g Jg (λy hy=>(h.ne y hy).1);have em:=O bm Jd (λy hy=>(h.ne y hy).2.2);have Jb:∀x,v1.ownBlock=some x->x≠g/\x≠B/\x≠bm:=λx hx=>by rcases hf x hx with I|I;exact h.ne x I;simp at I;refine⟨o_,o_,o_⟩
 have J:∀j,w1.cell? ⟨B,j,none⟩=wr.cell? ⟨B,j,none⟩:=λj=>c_ (a:=⟨B,j,none⟩) Z;have fB:∀j,w1.frozen? ⟨B,j,none⟩=wr.frozen? ⟨B,j,none⟩:=λj=>frozen?_of_block (a:=⟨B,j,none⟩) Z;have Je:w1.grownBy (w1.setCell ⟨B,1,none⟩ v1) (some B):=by have Jc:=(Below.refl 0 w1).setCell (p:=⟨B,1,none⟩) y_ v1;exact⟨Jc.os,Jc.tape,Jc.output,Jc.size,λi _ U=>Below.heap_setCell _ _ _ i (λe=>U (by rw[e]))⟩
 refine⟨⟨?_,?_,?_,?_,?_,Jb,?_,h1,h2,?_,?_⟩,(J 1).trans h.box1,(fB 1).trans h.free⟩;rw[s_ _ _ _ _ (by intro h;simp at h),J];exact h.box;exact cell?_setCell_same _ _ _ ((J 1).trans h.box1);rw[frozen?_setCell,fB];exact h.free;intro i U j hj;have⟨p1,p2⟩:=h.row i U j hj;rw[s_ _ _ _ _ (by intro h;simp only[Addr.mk.injEq]at h;exact hB h.1),frozen?_setCell,c_ (a:=⟨g,i*10+j,none⟩) Y,frozen?_of_block (a:=⟨g,i*10+j,none⟩) Y];exact⟨p1,p2⟩;rw[Id hk,ptrs_snoc,l_a,length_singleton];exact ho.kept Je (by
  cases e:v1.ownBlock with
  | none=>exact .inl rfl
  | some x=>exact .inr (λI=>(Jb x e).2.1 (by injection I)))
 have:w1.ownsMap prog 2 (plainElem (H:=Unit) prog 3) bm nn D:=by have⟨es,Ja,h0,F,hs,hD⟩:=h.map;exact⟨es,Ja,em.trans h0,F,hs,hD⟩
 exact this.kept Je (D4 hm)
 ·have hs:=h.size;have:Below B0 w w1:=(h.bel.alloc (t_ hb (Nat.le_of_lt Jf)) o).grown X Do (λx hx=>by
   have:=(ownsRow.lt h.brs x hx).1
   exact this)
  exact this.setCell hb v1
 have:=X.size
 have:=h.size
 simp at*;omega
end
theorem ER(B H g n bm nn:Nat)(Z:Option Addr)(cap:Nat)(its:List It)(A:Nat->Int)(G:Nat->BY)(L:Nat->Bool)(D:DataW Unit)(w:AT)(hB:B≠g)(Xj:H<=g)(Xl:H<=B)(hm:bm≠g)(Xh:bm≠B)(Xk:0<n->g<w.heap.size)(Xr:B<w.heap.size)(hn:n<=20000)(hc:n<=cap)(Xi:its.length=n)(Jn:0<n->Z=some ⟨g,0,none⟩)
  (I:xO w w B H g n bm nn Z cap its A L D 0 nV G) (hD:fK D its) (Jt:∀i,i<n->(Lit.int .i64 (its.getD i cV).label).wf=true):
  Calls prog 131 #[pV B,.map (some bm)] w λe w'=>(Linked its/\∃vb G',e=rW (.bool true)/\xO w w' B H g n bm nn Z cap its A L D n vb G')\/(¬Linked its/\e=rW (.bool false)/\Below H w w'/\w.heap.size<=w'.heap.size):=by
 have Jr:=ah I;have HD:=ah hD;have Ju:=ah Jt;have b0:=I.box;have⟨i0,hi,Jw,Jz,J_⟩:=info_parts EO;clear I hD Jt;go_in;go_wp2_with fail;clear b0;go_loopw[14] (λi wr=>∃(k:Nat) (vb:BY) (G':Nat->BY),k<=n/\i=V k/\xO w wr B H g n bm nn Z cap its A L D k vb G') (λi _=>n-(RowKit.intOf i).toNat)
 case atStart=>exact⟨0,_,_,y_,rfl,Jr⟩
 case round=>
  clear Jr;obtain⟨k,vb,G',hk,rfl,I⟩:=hrel;obtain⟨ab,cb,rfl⟩:=I.shape;have J:=ah I;have b0:=I.box;have b1:=I.box1;have bf:=I.free;have Jm:=I.size;have Xn:=Ie its k;clear I;by_cases hlt:k<n
  ·have Xc:=Jn o_;subst Xc;have Jl:=ah (J.o.row.pc k hlt);have c0:=Jl.o.c0;have c6:=Jl.o.c6;have Jh:=Ju.o k hlt;have⟨O,Jj⟩:=q_ (its.getD k cV);have Jb:=ah Jj;rw[<-Jj]at c0 c6 Jh;have Jc:=HD.o.cases O.label;clear Jj;by_cases h1:O.kd=1
   ·rw[h1]at c0;have U:=ah (J.o.skip (.inl (by rw[<-Jb.o];exact h1)) (λh=>by rw[<-Jb.o]at h;omega));clear h1;go_wp2;go_roundw
    case rel=>exact⟨k+1,_,_,o_,by go_num,U⟩
    case measure=>exact D1
   by_cases h2:O.kd=2
   ·rw[h2]at c0;have Jd:(dD its O.label).length=1:=by have Je:k∈dD its O.label:=DB o_ (by rw[<-Jb.o];exact decide_eq_true ⟨h2,rfl⟩);rcases Jc with h|⟨q,h⟩;rw[h]at Je;cases Je;rw[h];rfl
    have U:=ah (J.o.skip (.inr (by rw[<-Jb.o];exact h2)) (λh=>by rw[<-Jb.o];exact Jd));clear h1 h2 Jd;go_wp2;go_roundw
    case rel=>exact⟨k+1,_,_,o_,by go_num,U⟩
    case measure=>exact D1
   rcases Jc with Jg|⟨q,X⟩
   ·have Jf:=vY J.o.map HD.o Jh Jg;have Jy:Hid (¬Linked its):=λhl=>by
     have:=hl k o_ (by rw[<-Jb.o];exact h1)
     rw[<-Jb.o,Jg]at this;cases this
    have HB:Hid (Below H w wr):=J.o.bel;clear Jg;generalize O.kd=kd at c0 h1 h2;have e1:(kd == 1)=false:=(D4 h1);have e2:(kd == 2)=false:=(D4 h2);go_wp2;go_ret;exact .inr ⟨Jy,rfl,HB,Jm⟩
   have Jf:=vX J.o.map HD.o Jh X;have Xe:=uM (its:=its) (lab:=O.label) (k:=q) (by rw[X];simp);have Xm:q<n:=o_;have Jv:Hid (mD its k=q):=by show _=_;unfold mD;rw[<-Jb.o,if_neg h1,X];rfl
   have Jd:(dD its (its.getD k cV).label).length=1:=(by rw[<-Jb.o,X];rfl);have f8:=J.o.row.free k hlt 8 o_;have c8:=Jl.o.c8;have Ja:Hid _:=J.o.goal hlt hB hm Xj Jd (.pointer (some ⟨g,q*10,none⟩)) (by rw[Jv.o]);have Ji:=((Ja.o.1.row).pc k hlt).c0;rw[<-Jb.o]at Ji;have Xp:=Ja.o.1.box;have Xq:=Ja.o.1.box1;have Xo:=Ja.o.1.free;clear Xe Jd X;by_cases h3:O.kd=3
   ·rw[h3]at c0 Ji;have Xf:Hid ((its.getD k cV).kd=3):=(by show _=_;rw[<-Jb.o];exact h3);have Jq:Hid ((wr.setCell ⟨g,k*10+8,none⟩ (.pointer (some ⟨g,q*10,none⟩))).ownsRow H 215 1 (.slice ab (qM its k).length cb) (qM its k).length (qW g (qM its k))):=Ja.o.1.brs;have Xb:Hid (((wr.setCell ⟨g,k*10+8,none⟩ (.pointer (some ⟨g,q*10,none⟩))).alloc (.cells #[.pointer (some ⟨g,k*10,none⟩)] 215)).ownsRow H 215 1 (.slice ab (qM its k).length cb) (qM its k).length (qW g (qM its k))):=Jq.o.alloc _;have Jk:Hid (∀j u,[Value.pointer (some ⟨g,k*10,none⟩)][j]? =some u->((wr.setCell ⟨g,k*10+8,none⟩ (.pointer (some ⟨g,q*10,none⟩))).alloc (.cells #[.pointer (some ⟨g,k*10,none⟩)] 215)).cell? ((⟨wr.heap.size,0,none⟩:Addr).add j)=some u):=by
     intro j u Y;rw[addr_add];match j with
     | 0=>simp at Y;subst Y;rw[cell?_alloc_at _ _ _ _ i_];rfl
     | (j+1)=>simp at Y
    clear h1 h2 h3 Jq;go_wp2_with(at_builtin;refine dY rfl _ _ _ rfl H 215 i0 _ 1 8 underlying210 hi Jw Jz J_ rfl d_ _ (qM its k).length (qW g (qM its k)) rfl Xb.o ⟨wr.heap.size,0,none⟩ 1 1 [.pointer (some ⟨g,k*10,none⟩)] rfl rfl Jk.o (by simp[oneCell']) o_ d_ Do ?_);intro v1 w1 Jp Jo Js;have Jx:=Xk o_;have⟨hN,Xa,Xd⟩:=Ja.o.1.branch Xf.o hB Xh Xl Do Do Ja.o.2.1 Ja.o.2.2 Jp Jo (D4 Js);have U:=ah hN;obtain⟨a2,c2,rfl⟩:=hN.shape;clear hN Jp Jo Js;go_wp2;go_roundw
    case rel=>exact⟨k+1,_,_,o_,by go_num,U⟩
    case measure=>exact D1
   have U:Hid (xO w (wr.setCell ⟨g,k*10+8,none⟩ (.pointer (some ⟨g,q*10,none⟩))) B H g n bm nn (some ⟨g,0,none⟩) cap its A L D (k+1) (.slice ab (qM its k).length cb) (upd G' k (.pointer (some ⟨g,q*10,none⟩)))):=by refine {Ja.o.1 with brs:= ?_,seen:=Ja.o.2.1,go:=Ja.o.2.2};rw[EP (by rw[<-Jb.o];exact h3)];exact Ja.o.1.brs
   generalize O.kd=kd at c0 Ji h1 h2 h3;have e1:(kd == 1)=false:=(D4 h1);have e2:(kd == 2)=false:=(D4 h2);have e3:(kd == 3)=false:=(D4 h3);go_wp2;go_roundw
   case rel=>exact⟨k+1,_,_,o_,by go_num,U⟩
   case measure=>exact D1
  obtain rfl:k=n:=(by omega);have Xg:Hid (Linked its):=λj Y h1=>J.o.seen j o_ h1;go_wp2;go_ret;exact .inl ⟨Xg,_,_,rfl,J⟩
section
variable{w wr:AT}{its:List It}{k nn:Nat}{v:BY}{D:DataW Unit}
def yM:(prog.info? 217).map (λi=>(i.zero,i.size,i.bytes))=some (some (.agg #[V 0,V 0,V 0,V 0,V 0,V 0,V 0,V 0,.pointer none,.bool false]),10,80):=by kernel_rfl
def ij(its:List It):List BY:=its.flatMap (λit=>pcs it 0 (.pointer none) false)
def yN(its:List It)(x:It):ij (its++[x])=ij its++pcs x 0 (.pointer none) false:=by simp[ij]
theorem ES(its:List It)(i k:Nat)(hi:i<its.length)(hk:k<10):(ij its)[i*10+k]? =(pcs (its.getD i cV) 0 (.pointer none) false)[k]? := by
 induction its generalizing i with
 | nil=>simp at hi
 | cons x r ih=>
  have e:ij (x::r)=pcs x 0 (.pointer none) false++ij r:=rfl;have hl:(pcs x 0 (.pointer none) false).length=10:=rfl;rw[e];cases i with
  | zero=>rw[getElem?_append_left o_];simp[List.getD]
  | succ i=>rw[getElem?_append_right o_,hl,show(i+1)*10+k-10=i*10+k by omega,ih i (D4 hi)];simp[List.getD]
structure Dq (w wr:AT) (its:List It) (k nn:Nat) (v:BY) (D:DataW Unit):Prop where
 box:wr.cell? ⟨w.heap.size,0,none⟩=some v
 box1:wr.cell? ⟨w.heap.size,1,none⟩=some nV
 free:∀j,wr.frozen? ⟨w.heap.size,j,none⟩=false
 row:wr.ownsRow w.heap.size 217 10 v k (ij (its.take k))
 ne:∀x,v.ownBlock=some x->w.heap.size+1<x
 map:wr.ownsMap prog 2 (plainElem (H:=Unit) prog 3) (w.heap.size+1) nn D
 le:nn<=k
 lab:fK D (its.take k)
 good:∀j,j<k->gM (its.getD j cV)=true
 bel:Bl w wr
 size:w.heap.size+2<=wr.heap.size
def Dq.shape(h:Dq w wr its k nn v D):∃a c,v=.slice a k c/\k<=c/\(0<k->∃g,a=some ⟨g,0,none⟩/\g<wr.heap.size):=by have H:=h.row;rcases h.row.2 with⟨rfl,I⟩|⟨g,c,Jb,rfl,_,_,Ja,_⟩;exact⟨none,0,by rw[I],o_,λh=>absurd h o_⟩;exact⟨_,c,rfl,Ja,λ_=>⟨g,rfl,(ownsRow.lt H g rfl).2⟩⟩
def Dq.below{w':AT}(h:Dq w wr its k nn v D)(H:Bl wr w'):Dq w w' its k nn v D:=by
 have hs:=h.size;have Jb:=h.map.lt;have J:w.heap.size<wr.heap.size:=o_;refine {h with box:=(H.cell (p:=⟨w.heap.size,0,none⟩) J).trans h.box,box1:=(H.cell (p:=⟨w.heap.size,1,none⟩) J).trans h.box1,free:=λj=>(H.frozen (p:=⟨w.heap.size,j,none⟩) J).trans (h.free j),row:= ?_,map:= ?_,bel:=h.bel.trans (H.mono o_),size:=t_ hs H.size}
 have⟨X,I⟩:=h.row;refine⟨X,?_⟩;rcases I with I|⟨g,Je,Jc,rfl,g3,O,U⟩
 exact .inl I;refine .inr ⟨g,Je,Jc,rfl,g3,?_,U⟩;rw[H.block g (Array.getElem?_eq_some_iff.1 O).1];exact O
 have⟨Y,Ja,Z,F,Jd,hD⟩:=h.map;exact⟨Y,Ja,(H.block _ Jb).trans Z,F,Jd,hD⟩
theorem Dq.app{w1:World}{v1:Value}{o:Obj}{x:It}(h:Dq w wr its k nn v D)(J:its.take (k+1)=its.take k++[x])
  (ho:w1.ownsRow w.heap.size 217 10 v1 (k+1) (ij (its.take k)++pcs x 0 (.pointer none) false)) (X:(wr.alloc o).grownBy w1 v.ownBlock) (hf:∀y,v1.ownBlock=some y->v.ownBlock=some y\/(wr.alloc o).heap.size<=y):
  w1.cell? ⟨w.heap.size,0,none⟩=some v/\w1.frozen? ⟨w.heap.size,0,none⟩=false/\(w1.setCell ⟨w.heap.size,0,none⟩ v1).cell? ⟨w.heap.size,0,none⟩=some v1/\(w1.setCell ⟨w.heap.size,0,none⟩ v1).cell? ⟨w.heap.size,1,none⟩=some nV/\(∀j,(w1.setCell ⟨w.heap.size,0,none⟩ v1).frozen? ⟨w.heap.size,j,none⟩=false)/\(w1.setCell ⟨w.heap.size,0,none⟩ v1).ownsRow w.heap.size 217 10 v1 (k+1) (ij (its.take (k+1)))/\(∀y,v1.ownBlock=some y->w.heap.size+1<y)/\(w1.setCell ⟨w.heap.size,0,none⟩ v1).ownsMap prog 2 (plainElem (H:=Unit) prog 3) (w.heap.size+1) nn D/\Below w.heap.size w (w1.setCell ⟨w.heap.size,0,none⟩ v1)/\w.heap.size+2<=(w1.setCell ⟨w.heap.size,0,none⟩ v1).heap.size/\(∀b j,b<wr.heap.size->b≠w.heap.size->(∀y,v.ownBlock=some y->y≠b)->(w1.setCell ⟨w.heap.size,0,none⟩ v1).cell? ⟨b,j,none⟩=wr.cell? ⟨b,j,none⟩):=by
 have Z:=h.size;have U:∀x,x<wr.heap.size->(∀y,v.ownBlock=some y->y≠x)->w1.heap[x]? =wr.heap[x]? := λx J hy=>by rw[X.block x (by simp;omega) (λe=>hy x e.symm rfl)];exact Below.heap_alloc _ _ x J
 have Y:=U w.heap.size o_ (λy hy=>by have:=h.ne y hy;omega);have em:=U (w.heap.size+1) h.map.lt (λy hy=>by have:=h.ne y hy;omega);have Ja:∀y,v1.ownBlock=some y->w.heap.size+1<y:=λy hy=>by rcases hf y hy with I|I;exact h.ne y I;simp at I;omega
 have O:∀j,w1.cell? ⟨w.heap.size,j,none⟩=wr.cell? ⟨w.heap.size,j,none⟩:=λj=>c_ (a:=⟨w.heap.size,j,none⟩) Y;have fB:∀j,w1.frozen? ⟨w.heap.size,j,none⟩=wr.frozen? ⟨w.heap.size,j,none⟩:=λj=>World.frozen?_of_block (a:=⟨w.heap.size,j,none⟩) Y;have Jd:w1.grownBy (w1.setCell ⟨w.heap.size,0,none⟩ v1) (some w.heap.size):=by have Jc:=(Below.refl 0 w1).setCell (p:=⟨w.heap.size,0,none⟩) y_ v1;exact⟨Jc.os,Jc.tape,Jc.output,Jc.size,λi _ hi=>Below.heap_setCell _ _ _ i (λe=>hi (by rw[e]))⟩
 refine⟨(O 0).trans h.box,(fB 0).trans (h.free 0),World.cell?_setCell_same _ _ _ ((O 0).trans h.box),?_,λj=>?_,?_,Ja,?_,?_,?_,λb j hb1 hb2 hb3=>?_⟩;rw[s_ _ _ _ _ (by intro h;simp at h),O];exact h.box1;rw[World.frozen?_setCell,fB];exact h.free j;rw[J,yN];exact ho.kept Jd (by
  cases e:v1.ownBlock with
  | none=>exact .inl rfl
  | some x=>exact .inr (λI=>by have:=Ja x e;injection I with I;omega))
 have:w1.ownsMap prog 2 (plainElem (H:=Unit) prog 3) (w.heap.size+1) nn D:=by have⟨es,Jb,h0,F,Z,hD⟩:=h.map;exact⟨es,Jb,em.trans h0,F,Z,hD⟩
 exact this.kept Jd i_
 have:Bl w w1:=(h.bel.alloc o_ o).grown X (by simp;omega) (λx J=>(World.ownsRow.lt h.row x J).1)
 exact this.setCell n_ v1
 have:=X.size
 simp at this⊢;omega;rw[s_ _ _ _ _ (by intro h;simp only[Addr.mk.injEq]at h;exact hb2 h.1.symm)];exact c_ (a:=⟨b,j,none⟩) (U b hb1 hb3)
def BZ(w:AT)(its:List It):Dq w ((w.alloc (.cells #[nV,nV] 212)).alloc (.map #[] 0)) its 0 0 nV (.map []):=by refine⟨by go_simp,by go_simp,λj=>by go_simp,ownsRow_nil _ _ _ _,(λx h=>by cases h),?_,n_,fK.nil,λj hj=>absurd hj o_,(aq _ _).alloc i_ _,i_⟩;have:=ownsMap_made (w.alloc (.cells #[nV,nV] 212)) prog 2 (plainElem (H:=Unit) prog 3);simpa using this
def iW(its:List It):Prop:=∀j,j<its.length->gM (its.getD j cV)=true
structure ET (w w':AT) (its:List It) (B g:Nat) (pa:Option Addr) (cap:Nat) (vb:BY) (A:Nat->Int) (G:Nat->BY) (L:Nat->Bool):Prop where
 asm:Hm w' B g its.length pa cap vb its A G L
 cap:its.length<=cap
 go:Ki its g G
 brs:yo w' g vb (brs its)
 lgs:eE L its.length=turns its 0
 bg:B≠g
 lB:w.heap.size<=B/\B<w'.heap.size
 lg:w.heap.size<=g/\(0<its.length->g<w'.heap.size)
 bel:Bl w w'
theorem EU(its:List It)(v:BY)(w:AT)(hn:its.length<=20000)(hv:kV w v its)(Xt:∀i,i<its.length->(Lit.int .i64 (its.getD i cV).label).wf=true):
  Calls prog 81 #[v] w λe w'=>(iW its/\Linked its/\∃B g pa cap vb A G L,e=rW (pV B)/\ET w w' its B g pa cap vb A G L)\/(¬(iW its/\Linked its)/\e=rW (.pointer none)/\Bl w w'):=by
 obtain⟨av,cv,rfl,Ya,Xx,Xk⟩:=hv;have⟨Xe,Js⟩:=h2 Xk Xt;have⟨i0,X,Xh,Xq,Xm⟩:=info_parts yM;have Xz:= @run_makeMap prog;go_in;go_wp2;go_loopw[12] (λi wr=>∃(k nn:Nat) (u:BY) (D:DataW Unit),k<=its.length/\i=.int .i64 k/\Dq w wr its k nn u D) (λi _=>its.length-(RowKit.intOf i).toNat)
 case atStart=>exact⟨0,0,_,_,y_,rfl,BZ w its⟩
 case round=>
  obtain⟨k,nn,u,D,hk,rfl,O⟩:=hrel;have I:=ah O;obtain⟨Y,Z,rfl,Jy,-⟩:=O.shape;have Xu:=O.size;by_cases Jd:k<its.length
  ·obtain⟨b,Xw,rfl,hc⟩:=Xe.o o_;have⟨c0,c1,c2,c3,c4,c5,c6⟩:=(hc.below O.bel) k Jd;have Jk:=Js.o k Jd;have Jh:Hid (its.take (k+1)=its.take k++[its[k]]):=by show _=_;rw[take_add_one,K3 Jd];rfl
   have Je:Hid (its.getD k cV=its[k]):=(by show _=_;simp[List.getD,Jd]);rw[Je.o]at Jk;generalize its[k]=x at c0 c1 c2 c3 c4 c5 c6 Jk Jh Je;have hA:Bl wr (wr.alloc (.cells #[V x.kd,V x.ins.op,V x.ins.rd,V x.ins.s1,V x.ins.s2,V x.ins.im,V x.label] 214)):=aq _ _;have Xn:=ah λ(w:AT)=>BV x w;go_wp2_with fail;refine(Xn.o _).mono ?_;rintro e w1 ⟨rfl,Jf⟩;simp only[Bl,K9]at Jf;have Jt:=jB Jf;have⟨y0,y1,y2,y3,y4,y5,y6⟩:=Ny Jf;have Jg:Hid (Dq w w1 its k nn (.slice Y k Z) D):=I.o.below Jt;have Xv:wr.heap.size<w1.heap.size:=(by have:=Jf.size;simp at this;omega);cases hg:gM x
   ·have Jl:Hid (¬(iW its/\Linked its)):=λh=>by
     have:=h.1 k Jd
     rw[Je.o,hg]at this;cases this
    go_wp2;go_ret;exact .inr ⟨Jl,rfl,Jg.o.bel⟩
   have Jc:Hid (∀j,j<k+1->gM (its.getD j cV)=true):=λj J=>by by_cases e:j=k;subst e;rw[Je.o];exact hg;exact I.o.good j o_
   have b0:=Jg.o.box;have bf:=Jg.o.free 0;have Xi:Hid ((w1.alloc (.cells #[V x.kd,V x.ins.op,V x.ins.rd,V x.ins.s1,V x.ins.s2,V x.ins.im,V x.label,V 0,.pointer none,.bool false] 217)).ownsRow w.heap.size 217 10 (.slice Y k Z) k (ij (its.take k))):=Jg.o.row.alloc _;have Jq:Hid (∀j u,(pcs x 0 (.pointer none) false)[j]? =some u->(w1.alloc (.cells #[V x.kd,V x.ins.op,V x.ins.rd,V x.ins.s1,V x.ins.s2,V x.ins.im,V x.label,V 0,.pointer none,.bool false] 217)).cell? ((⟨w1.heap.size,0,none⟩:Addr).add j)=some u):=by intro j u J;rw[addr_add,cell?_alloc_at _ _ _ _ rfl];simpa[pcs]using J
   have Jn:∀u∈pcs x 0 (.pointer none) false,u.oneCell'=true:=by intro u hu;simp only[pcs,mem_cons,not_mem_nil,or_false]at hu;rcases hu with rfl|rfl|rfl|rfl|rfl|rfl|rfl|rfl|rfl|rfl <;> rfl
   have Jm:∀y,(Value.slice Y k Z).ownBlock=some y->y≠wr.heap.size:=λy hy=>by have:=(ownsRow.lt I.o.row y hy).2;omega
   go_wp2_with(at_builtin;refine dY rfl _ _ _ rfl w.heap.size 217 i0 _ 10 80 underlying209 X Xh Xq Xm rfl d_ _ k (ij (its.take k)) rfl Xi.o ⟨w1.heap.size,0,none⟩ 1 1 (pcs x 0 (.pointer none) false) rfl rfl Jq.o Jn o_ d_ (by have:=Jt.size;simp;omega) ?_);intro v1 w2 Jx Xa Xj;have⟨q0,q1,q2,q3,q4,q5,q6,q7,q8,q9,Xb⟩:=Jg.o.app Jh.o Jx Xa (D4 Xj);have n0:=(Xb wr.heap.size 0 o_ o_ Jm).trans y0;have n6:=(Xb wr.heap.size 6 o_ o_ Jm).trans y6;have H:Hid _:=And.intro q2 (And.intro q3 (And.intro q4 (And.intro q5 (And.intro q6 (And.intro q7 (And.intro q8 q9))))));obtain⟨U,c1',rfl⟩:∃U c1',v1=.slice U (k+1) c1':=by rcases Jx.2 with⟨_,hz⟩|⟨g,c,Xf,rfl,_⟩;omega;exact⟨_,c,rfl⟩
   have X_:=I.o.le;have Xy:w.heap.size+1<(w2.setCell ⟨w.heap.size,0,none⟩ (.slice U (k+1) c1')).heap.size:=H.o.2.2.2.2.2.1.lt;by_cases h2:x.kd=2
   ·rw[h2]at n0;have Xc:(its.take k).length=k:=Do;rcases I.o.lab.cases x.label with Ju|⟨q,hq⟩
    ·have Jj:=vY H.o.2.2.2.2.2.1 I.o.lab Jk Ju;have Jp:Hid (fK (D.put (.int .i64 x.label) (.lit (.int .i64 (k:Int)))) (its.take (k+1))):=by
      have:=I.o.lab.put h2 Ju
      rw[Xc]at this;rw[Jh.o];exact this
     go_wp2_with(first
      | (at_mapUpdate;refine wpList_mapUpdate_own _ rfl _ _ _ 277 rfl 2 3 (Maps.int_keyed underlying2) underlying277 _ (w.heap.size+1) nn D rfl H.o.2.2.2.2.2.1 (by unfold maxLen;omega) _ _ _ rfl rfl (Maps.keyOf_int_mk underlying2 Jk) _ [] (plainElem_int underlying3 (WalkArith.wf_i64 o_)) ?_;intro w3 Ji Ja)
      | go_in)
     have HN:Hid (Dq w w3 its (k+1) (nn+1) (.slice U (k+1) c1') (D.put (.int .i64 x.label) (.lit (.int .i64 (k:Int))))):=by
      have⟨p0,p1,p2,p3,p4,p5,p6,p7⟩:=H.o;have Xd:=Ja.block w.heap.size o_ i_;refine⟨Ja.cell p0 i_,Ja.cell p1 i_,λj=>(frozen?_of_block (a:=⟨w.heap.size,j,none⟩) Xd).trans (p2 j),p3.kept Ja ?_,p4,Ji,o_,Jp,Jc,p6.grown Ja o_ (λj J=>by cases J;omega),t_ p7 Ja.size⟩;cases e:(Value.slice U (k+1) c1').ownBlock with
      | none=>exact .inl rfl
      | some y=>exact .inr (λh'=>by have:=p4 y e;injection h' with h';omega)
     go_roundw
     case rel=>exact⟨k+1,_,_,_,o_,by go_num,HN⟩
     case measure=>exact D1
    have Jj:=vX H.o.2.2.2.2.2.1 I.o.lab Jk hq;have Jl:Hid (¬(iW its/\Linked its)):=λh=>by have h1:=h.2 k Jd (by rw[Je.o];omega);rw[Je.o]at h1;have h3:=tq its (k+1) x.label;rw[Jh.o,posL_snoc,hq]at h3;have Xr:Jz x x.label=true:=decide_eq_true ⟨h2,rfl⟩;rw[Xr]at h3;simp at h3;omega
    go_wp2;go_ret;exact .inr ⟨Jl,rfl,H.o.2.2.2.2.2.2.1⟩
   have Xo:Hid (fK D (its.take (k+1))):=(by show fK _ _;rw[Jh.o];exact I.o.lab.skip h2);have HN:Hid (Dq w (w2.setCell ⟨w.heap.size,0,none⟩ (.slice U (k+1) c1')) its (k+1) nn (.slice U (k+1) c1') D):=⟨H.o.1,H.o.2.1,H.o.2.2.1,H.o.2.2.2.1,H.o.2.2.2.2.1,H.o.2.2.2.2.2.1,o_,Xo,Jc,H.o.2.2.2.2.2.2.1,H.o.2.2.2.2.2.2.2⟩;generalize x.kd=kd at n0 h2;go_wp2;go_roundw
   case rel=>exact⟨k+1,_,_,_,o_,by go_num,HN⟩
   case measure=>exact D1
  obtain rfl:k=its.length:=(by omega);have J_:its.take its.length=its:=take_length;have Xg:Hid (iW its):=I.o.good;obtain⟨g,Jw,Xa,Jv,Xp⟩:∃g,(0<its.length->Y=some ⟨g,0,none⟩)/\w.heap.size+1<g/\(0<its.length->g<wr.heap.size)/\cO wr g its.length its (λ_=>0) (λ_=>.pointer none) (λ_=>false):=by by_cases h0:0<its.length;have Jb:=O.row;rcases Jb.2 with⟨_,hz⟩|⟨g,c,Xf,he,_⟩;omega;simp only[Value.slice.injEq]at he;obtain⟨rfl,-,rfl⟩:=he;have Jd:=(ownsRow.lt Jb g rfl).2;refine⟨g,λ_=>rfl,O.ne g rfl,λ_=>Jd,λi X j J=>⟨?_,ownsRow.frozenAt Jb _⟩⟩;have e:=ES its i j X J;have hl:(pcs (its.getD i cV) 0 (.pointer none) false).length=10:=rfl;obtain⟨y,hy⟩:∃y,(pcs (its.getD i cV) 0 (.pointer none) false)[j]? =some y:=⟨_,K3 (by rw[hl];exact J)⟩;rw[hy]at e;have:=ownsRow.cells Jb (g:=g) rfl (i*10+j) y (by rw[J_];exact e);rw[addr_add]at this;rw[this,hy];exact⟨w.heap.size+2,λh=>absurd h h0,o_,λh=>absurd h h0,λi X=>absurd X o_⟩
  have Jr:fK D its:=(by have:=O.lab;rw[J_]at this;exact this);have Xs:Hid (xO wr wr w.heap.size w.heap.size g its.length (w.heap.size+1) nn Y Z its (λ_=>0) (λ_=>false) D 0 nV (λ_=>.pointer none)):=
   ⟨O.box,O.box1,O.free 1,Xp,ownsRow_nil _ _ _ _,λx h=>(by cases h),O.map,λj J=>absurd J o_,λj J=>absurd J o_,r_,n_⟩
  have Jo:=ah Jr;go_wp2_with fail;refine(ER w.heap.size w.heap.size g its.length (w.heap.size+1) nn Y Z its (λ_=>0) (λ_=>.pointer none) (λ_=>false) D wr o_ o_ n_ o_ o_ Jv o_ hn Jy rfl Jw Xs.o Jo.o Js).mono ?_;rintro e w1 (⟨hL,vb,G',rfl,hI1⟩|⟨hL,rfl,Jf,hs1⟩)
  ·have HN:Hid (ET w w1 its w.heap.size g Y Z vb (λ_=>0) G' (λ_=>false)):=by refine⟨⟨rfl,hI1.box,Jw,hI1.row,hI1.box1⟩,Jy,λi X h1 h2=>hI1.go i X h1 h2,EQ hI1.brs (λx hx=>(hI1.ne x hx).1),?_,o_,⟨n_,Ft hI1.size⟩,⟨o_,λh=>Ht (Jv h) hI1.size⟩,I.o.bel.trans hI1.bel⟩;simp[eE,turns,map_const']
   have Xl:=ah hL;go_wp2;go_ret;exact .inl ⟨Xg,Xl,_,_,_,_,_,_,_,_,rfl,HN⟩
  have Jl:Hid (¬(iW its/\Linked its)):=λh=>hL h.2;have HB:Hid (Bl w w1):=I.o.bel.trans Jf;go_wp2;go_ret;exact .inr ⟨Jl,rfl,HB⟩
end
section
variable{B:Nat}{w:AT}{v:BY}{us r:List Int}{its:List It}
def EV:(prog.info? 28).map (λi=>(i.zero,i.size,i.bytes))=some (some (.int .u32 0),1,4):=by kernel_rfl
def fC(B:Nat)(w:AT)(v:BY)(us:List Int):Prop:=w.ownsRow B 28 1 v us.length (us.map (Value.int .u32))
def fC.shape(h:fC B w v us):∃a c,v=.slice a us.length c:=by rcases h.2 with⟨rfl,H⟩|⟨g,Ja,Jb,rfl,_⟩;exact⟨none,0,by rw[H]⟩;exact⟨_,Ja,rfl⟩
def fC.below{w':AT}(h:fC B w v us)(X:Bl w w'):fC B w' v us:=by obtain⟨O,H⟩:=h;refine⟨O,?_⟩;rcases H with H|⟨g,Jb,Ja,rfl,U,I,J⟩;exact .inl H;refine .inr ⟨g,Jb,Ja,rfl,U,?_,J⟩;rw[X.block g (Array.getElem?_eq_some_iff.1 I).1];exact I
def fC.base{B':Nat}(h:fC B w v us)(U:B'<=B):fC B' w v us:=by obtain⟨J,H⟩:=h;refine⟨J,?_⟩;rcases H with H|⟨g,Jb,Ja,rfl,O,I⟩;exact .inl H;exact .inr ⟨g,Jb,Ja,rfl,t_ U O,I⟩
def pN(W:AT)(B:Nat)(hB:B<=W.heap.size):fC B (W.alloc (.cells #[] 28)) (rV W.heap.size 0 0) []:=ownsRow_lit W #[] 0 hB d_ rfl
theorem EW(Ja:Nat)(J:IN)(v:BY)(H:List Int)(Jb:fC Ja w v H)(x:BY)(h:List Int)(hx:vW w x h)(hm:H.length+h.length<=10000000)(Jc:Ja<=w.heap.size):
  ∃v' w',(Builtin.append_ #[27,27] J #[v,x]).run prog w=.ok v' w'/\fC Ja w' v' (H++h)/\w.grownBy w' v.ownBlock:=by
 have⟨Y,I,Je,Jg,Jh⟩:=info_parts EV;obtain⟨a,Jd,rfl,h2,h3⟩:=hx;cases a with
 | none=>
  obtain rfl:=h2 rfl;have Z:(Builtin.append_ #[27,27] J #[v,.slice none ([]:List Int).length Jd]).run prog w=.ok v w:=by rcases Jb.2 with⟨rfl,hn⟩|⟨g,Jf,Jj,rfl,_,_,Ji,_⟩;simp[Builtin.append_,run_underlying underlying27,sizeOf,typeInfo,I,Builtin.lenOf,Builtin.firstCells];simp[Builtin.append_,run_underlying underlying27,sizeOf,typeInfo,I,Builtin.lenOf,Builtin.firstCells,Ji,storeCells]
  exact⟨v,w,Z,D4 Jb,⟨rfl,rfl,rfl,n_,λ_ _ _=>rfl⟩⟩
 | some ad=>have⟨v',w',X,r2,U,r4⟩:=fV (P:=prog) (w:=w) Ja 27 J 28 Y _ 1 4 underlying27 I Je Jg Jh rfl d_ v H.length (H.map (Value.int .u32)) Jb ad h.length Jd (h.map (Value.int .u32)) i_ (h3 ad rfl) (by intro u O;simp at O;obtain⟨y,_,rfl⟩:=O;rfl) hm d_ Jc;refine⟨v',w',X,?_,U⟩;unfold fC;rw[l_a,map_append];exact r2
def vZ{ops:Array Oper}{Jc:List Oper}{o:Oper}{a:Act}{Q:Exit->Act->AT->Prop}(Je:o.guard=none)(s x:Operand)
  (U:o.op=.call {callee:=.builtin .append,args:=#[s,x],argTypes:=#[27,27]})
  (Ja:Nat) (v:BY) (H:List Int) (X:a.eval s=v) (Jd:fC Ja w v H) (J:BY) (I:List Int) (Jf:a.eval x=J) (Y:vW w J I)
  (Z:H.length+I.length<=10000000) (Jb:Ja<=w.heap.size)
  (h:∀v' w',fC Ja w' v' (H++I)->w.grownBy w' v.ownBlock->wpList prog ops Q Jc (a.put o.dst v') w'):wpList prog ops Q (o::Jc) a w:=by
 refine wpList_plain Je λK hK=>?_;have⟨v',w',O,h2,h3⟩:=EW (w:=w) Ja o.type v H Jd J I Y Z Jb;unfold Oper.wp execOp;simp only[U,resolve,invoke,builtin,Sem.run_bind,Sem.run_pure,Result.andThen_ok,map_toArray,map_cons,map_nil,X,Jf,O];exact hK _ _ (h v' w' h2 h3)
def ik(its:List It)(lg:List Bool):Nat->List Int
 | 0=>[]
 | k+1=>ik its lg k++xN (its.getD k cV) (tu its lg k) (lg.getD k false)
theorem B_(its:List It)(h:List Bool)(k:Nat):(ik its h k).length<=2*k:=by
 induction k with
 | zero=>simp[ik]
 | succ k ih=>
  have:=AI (its.getD k cV) (tu its h k) (h.getD k false)
  simp only[ik,l_a];omega
def Ig{x:It}(h:gM x=true)(h3:x.kd=3):4<=x.ins.op/\x.ins.op<=9:=by unfold gM at h;by_cases hl:x.label<0;rw[if_pos hl]at h;cases h;rw[if_neg hl,if_neg o_,if_pos h3]at h;simp only[Io,K0]at h;exact h.1.1
def pO(its:List It)(r:List Int):Prop:=
 (its.length<=20000/\iW its/\Linked its/\∃lg,Fin its lg/\((jS its lg its.length<=20000/\r=ik its lg its.length)\/(20000<jS its lg its.length/\r=[])))\/(¬(its.length<=20000/\iW its/\Linked its)/\r=[])
def pO.one{I:List Int}(h:pO its r)(H:pO its I):r=I:=by
 rcases h with⟨a,b,c,lg,f,h⟩|⟨n,rfl⟩;rcases H with⟨_,_,_,Ja,J,H⟩|⟨n,_⟩;obtain rfl:=f.one J;rcases h with⟨l,rfl⟩|⟨l,rfl⟩ <;> rcases H with⟨l',rfl⟩|⟨l',rfl⟩
 rfl;omega;omega;rfl;exact absurd ⟨a,b,c⟩ n;rcases H with⟨a,b,c,_⟩|⟨_,rfl⟩;exact absurd ⟨a,b,c⟩ n;rfl
theorem EX(its:List It)(v:Value)(w:World)(hv:kV w v its)(Jz:∀i,i<its.length->(Lit.int .i64 (its.getD i cV).label).wf=true)(hl:its.length<=1048576):
    Calls prog 49 #[v] w λe w'=>∃u r,e=rW u/\pO its r/\fC w.heap.size w' u r/\Below w.heap.size w w':=by
  have HV:Hid (kV w v its):=hv;have J_:Hid (∀i,i<its.length->(Lit.int .i64 (its.getD i cV).label).wf=true):=Jz;obtain⟨av,cv,rfl,Xr,Xp,-⟩:=hv;clear Jz;by_cases h2:20000<its.length
  · have J:Hid (pO its []):=.inr ⟨λh=>by omega,rfl⟩
    go_in;go_wp2;go_ret;exact⟨_,[],rfl,J,pN w _ n_,r_.alloc n_ _⟩
  have U:its.length<=20000:=o_;go_in;go_wp2_with fail;refine(EU its _ w U HV.out J_).mono ?_;rintro e w1 (⟨hg1,hg2,B,g,pa,cap,vb,A,G,L,rfl,hN⟩|⟨hno,rfl,Jd⟩)
  · have H:Hid (ET w w1 its B g pa cap vb A G L):=hN
    have Jm:Hid (iW its):=hg1;have Jg:Hid (Linked its):=hg2;clear hg1 hg2 hN;go_wp2_with fail;refine(yq B g its.length pa cap vb its A G L w1 H.out.bg H.out.lB.2 H.out.lg.2 U H.out.cap H.out.asm H.out.lgs H.out.go H.out.brs Jg).mono ?_;rintro e w2 ⟨lg,I,O,hF,Jt,rfl,Js,Jj,Ju⟩;have HF:Hid (Fin its lg):=hF;have Ja:Below w.heap.size w w2:=H.out.bel.trans (Js.below H.out.lg.1 H.out.bel.size);have Jo:Hid (Hm w2 B g its.length pa cap vb its I G O):=Jj;have Xl:Hid (eE O its.length=lg):=Jt;have Jf:Hid (∀i,i<its.length->I i=4*((jS its lg i:Nat):Int)):=Ju;have Jk:=lj its lg its.length;have b0:=Jj.box;clear hF Jt Js Jj Ju;by_cases hbig:20000<jS its lg its.length
    · have J:Hid (pO its []):=.inl ⟨U,Jm,Jg,lg,HF,.inr ⟨hbig,rfl⟩⟩
      go_wp2;go_ret;exact⟨_,[],rfl,J,pN w2 _ Ja.size,Ja.alloc Ja.size _⟩
    · have J:Hid (pO its (ik its lg its.length)):=.inl ⟨U,Jm,Jg,lg,HF,.inl ⟨o_,rfl⟩⟩
      generalize jS its lg its.length=pl at Jk hbig⊢;go_wp2_with fail;have⟨M,Jy⟩:=q_ w2.heap.size;have X:Hid (M=w2.heap.size):=Jy;clear Jy;go_loopw[4,25] (λc i wr=>∃k:Nat,k<=its.length/\i=V k/\fC M wr c (ik its lg k)/\Below M w2 wr) (λ_ i _=>its.length-(RowKit.intOf i).toNat)
      case atStart=>exact⟨0,y_,rfl,World.ownsRow_nil _ _ _ _,r_⟩
      case round=>
        obtain⟨k,hk,rfl,Y,hB⟩:=hrel;obtain⟨ac,cc,rfl⟩:=Y.shape;have HU:Hid (fC M wr (.slice ac (ik its lg k).length cc) (ik its lg k)):=Y;have Jc:Below w2.heap.size w2 wr:=(by rw[<-X.out];exact hB);have Jr:M<=wr.heap.size:=(by rw[X.out];exact Jc.size);have Ji:=B_ its lg k;have Xq:=(Jc.cell (p:=⟨B,0,none⟩) (b_ b0)).trans b0;clear Y;by_cases hlt:k<its.length
        · have Xo:=Jo.out.row o_
          subst Xo;have Xd:Hid (Pc wr g (k*10) (its.getD k cV) (I k) (G k) (O k)):=(Jo.out.pcs.pc k hlt).below Jc;have Jn:=DC Jg.out hlt;have Xe:Hid (NC wr (its.getD k cV) (G k) (I (mD its k))):=λhkd=>⟨g,mD its k*10,_,_,_,H.out.go k hlt o_ o_,(Jo.out.pcs.pc (mD its k) Jn).below Jc⟩;have Jp:Hid (I (mD its k)-I k=tu its lg k):=(by show _=_;rw[Jf.out k hlt,Jf.out _ Jn];rfl);have Xg:=lj its lg k;have Xb:=lj its lg (mD its k);have Xa:=Jf.out k hlt;have Xm:=Jf.out _ Jn;have Jd:0<=I k/\I k<=1000000000:=o_;have Xn:0<=I (mD its k)/\I (mD its k)<=1000000000:=o_;have Xi:Hid ((its.getD k cV).kd=3->4<=(its.getD k cV).ins.op/\(its.getD k cV).ins.op<=9):=λh3=>Ig (Jm.out k hlt) h3;have Jl:Hid (lg.getD k false=O k):=(by show _=_;rw[<-Xl.out,py O _ k hlt]);clear Xa Xm Xg Xb;go_wp2_with fail;refine(EN g (k*10) (its.getD k cV) (I k) (I (mD its k)) (G k) (O k) wr Xd.out Xe.out Jd Xn Xi).mono ?_;rintro e w3 ⟨v3,rfl,Je,Jh⟩;rw[Jp.out,<-Jl.out]at Je;have Z:Hid (ik its lg (k+1)=ik its lg k++xN (its.getD k cV) (tu its lg k) (lg.getD k false)):=rfl;have Xh:=AI (its.getD k cV) (tu its lg k) (lg.getD k false);generalize xN (its.getD k cV) (tu its lg k) (lg.getD k false)=ws at Je Z Xh;have Xk:Hid (vW w3 v3 ws):=Je;obtain⟨a3,c3,rfl,-⟩:=Je;have Jq:Hid (fC M w3 (.slice ac (ik its lg k).length cc) (ik its lg k)):=HU.out.below Jh;have Xf:Below M w2 w3:=hB.trans (Jh.mono Jr);have Jb:M<=w3.heap.size:=t_ Jr Jh.size;generalize ik its lg k=ck at Jq Z Ji HU⊢;clear Jh;go_wp2_with(at_builtin;refine vZ rfl _ _ rfl M _ ck rfl Jq.out _ ws rfl Xk.out o_ Jb ?_);intro v4 w4 Jx Jv;have Jw:Hid (fC M w4 v4 (ik its lg (k+1))):=(by show fC _ _ _ _;rw[Z.out];exact Jx);have Xj:Below M w2 w4:=Xf.grown Jv Jb (λx hx=>(World.ownsRow.lt Jq.out x hx).1);obtain⟨a4,c4,rfl⟩:=Jw.out.shape;clear Jx Jv;go_wp2;go_roundw
          case rel=>exact⟨k+1,o_,by go_num,Jw,Xj⟩
          case measure=>simp[RowKit.intOf];omega
        · obtain rfl:k=its.length:=by omega
          have Xc:Below w.heap.size w wr:=Ja.trans (Jc.mono Ja.size);go_wp2;go_ret;exact⟨_,_,rfl,J,HU.out.base (by rw[X.out];exact Ja.size),Xc⟩
  · have J:Hid (pO its []):=.inr ⟨λh=>hno ⟨h.2.1,h.2.2⟩,rfl⟩
    clear hno;go_wp2;go_ret;exact⟨_,[],rfl,J,pN w1 _ Jd.size,Jd.alloc Jd.size _⟩
end
end Go.Proofs.YtngnoopnloojjaaGreatDoor
