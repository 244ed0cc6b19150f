import Derived.Test.YtffnkkpmlplfeaaGreatDoorN16
import Derived.Laws.AppendOwnNone
namespace Go.Proofs.YtffnkkpmlplfeaaGreatDoor
open Go.Proofs.Tryz
open Go.RowKit
set_option linter.all false
set_option maxRecDepth 100000
set_option maxHeartbeats 16000000
variable[Inhabited Pick]
section
variable {w w':World} {ns:List Nd} {B sz n:Nat} {v:Value} {row:Option Nat} {e:TypeId} {xs:List Value}
def encNd (n:Nd):List Value:=[.int .i64 n.kind,.int .i64 n.val,.string n.name]
def flatN (ns:List Nd):List Value:=ns.flatMap encNd
theorem flatN_len (ns:List Nd):(flatN ns).length=ns.length*3:=by
 induction ns with
 | nil=>rfl
 | cons n r ih=>
  have:flatN (n::r)=encNd n++flatN r:=rfl
  rw[this,l_a,ih];simp[encNd];omega
theorem flatN_append (a b:List Nd):flatN (a++b)=flatN a++flatN b:=by simp[flatN]
theorem flatN_at (ns:List Nd) (j:Nat) (hj:j<ns.length):(flatN ns)[j*3]? = some (.int .i64 ns[j].kind)/\(flatN ns)[j*3+1]? = some (.int .i64 ns[j].val)/\(flatN ns)[j*3+2]? = some (.string ns[j].name):=by
 induction ns generalizing j with
 | nil=>simp at hj
 | cons n r ih=>
  have e:flatN (n::r)=encNd n++flatN r:=rfl;cases j with
  | zero=>rw[e];simp[encNd]
  | succ j=>
   have:=ih j (by simpa using hj)
   rw[e];have e1:(j+1)*3=j*3+3:=by omega
   have hl:(encNd n).length=3:=rfl;refine⟨?_,?_,?_⟩
   ·rw[e1,List.getElem?_append_right o_,hl];simpa using this.1
   ·rw[e1,List.getElem?_append_right o_,hl,show j*3+3+1-3=j*3+1 by omega];simpa using this.2.1
   ·rw[e1,List.getElem?_append_right o_,hl,show j*3+3+2-3=j*3+2 by omega];simpa using this.2.2
theorem flatN_split (ns:List Nd) (i:Nat) (hi:i<ns.length*3) : ∃j,j<ns.length/\(i=j*3∨i=j*3+1∨i=j*3+2):=⟨i / 3,by omega,by omega⟩
theorem addrO (g off j:Nat):(⟨g,off,none⟩:Addr).add j=⟨g,off+j,none⟩:=by
 simp[Addr.add];try (intro h;omega)
theorem nodes_news {b off:Nat} (h:NodesC w b off ns) : ∀i u,(flatN ns)[i]? = some u->w.cell? ((⟨b,off,none⟩:Addr).add i)=some u:=by
 intro i u hu;have hi:i<ns.length*3:=by rw[<-flatN_len];exact (List.getElem?_eq_some_iff.1 hu).1
 obtain⟨j,hj,he⟩:=flatN_split ns i hi;obtain⟨f0,f1,f2⟩:=flatN_at ns j hj;obtain⟨c0,c1,c2⟩:=h j hj;rw[addrO];rcases he with rfl|rfl|rfl
 ·rw[f0] at hu;cases hu;exact c0
 ·rw[f1] at hu;cases hu;rw[<-Nat.add_assoc];exact c1
 ·rw[f2] at hu;cases hu;rw[<-Nat.add_assoc];exact c2
theorem flatN_one (ns:List Nd) : ∀u∈flatN ns,u.oneCell'=true:=by
 intro u hu;simp only[flatN,List.mem_flatMap] at hu;obtain⟨n,_,hn⟩:=hu;simp only[encNd,List.mem_cons,List.not_mem_nil,or_false] at hn;rcases hn with rfl|rfl|rfl <;> rfl
def NRow (B:Nat) (w:World) (v:Value) (ns:List Nd):Prop:=w.ownsRow B 134 3 v ns.length (flatN ns)
theorem NRow.nodes (h:NRow B w v ns):Nodes w v ns:=by
 have h0:=h;obtain⟨hl,h⟩:=h;rcases h with ⟨rfl,hz⟩|⟨g,cap,cur,rfl,hg,hh,hc1,hc2,hc3,hc4⟩
 ·exact⟨none,0,by rw[hz],by omega,by omega,λh=>absurd h o_⟩
 ·refine⟨_,cap,rfl,hc1,by simp only[maxLen] at hc2;omega,λ_=>⟨g,0,rfl,λj hj => ?_⟩⟩;obtain⟨f0,f1,f2⟩:=flatN_at ns j hj;have k0:=World.ownsRow.cells h0 (g:=g) rfl _ _ f0;have k1:=World.ownsRow.cells h0 (g:=g) rfl _ _ f1;have k2:=World.ownsRow.cells h0 (g:=g) rfl _ _ f2;rw[addrO] at k0 k1 k2;exact⟨k0,by rw[Nat.add_assoc];exact k1,by rw[Nat.add_assoc];exact k2⟩
theorem info_node:(prog.info? 134).map (λi=>(i.zero,i.size,i.bytes))=some (some (.agg #[.int .i64 0,.int .i64 0,.string ⟨#[]⟩]),3,32):=by kernel_rfl
theorem ownG (h:w.ownsRow B e sz v n xs) (hg:w.grownBy w' row) (hne : ∀g,v.ownBlock=some g->row≠some g):w'.ownsRow B e sz v n xs:=by
 obtain⟨g1,g2⟩:=h;refine⟨g1,?_⟩;rcases g2 with g2|⟨g,cap,cur,rfl,g3,g4,g5⟩
 ·exact .inl g2
 ·refine .inr ⟨g,cap,cur,rfl,g3,?_,g5⟩;rw[hg.block g (Array.getElem?_eq_some_iff.1 g4).1 (λe=>hne g rfl e.symm)];exact g4
theorem ownB (h:w.ownsRow B e sz v n xs) (hb:Below w.heap.size w w'):w'.ownsRow B e sz v n xs:=by
 obtain⟨g1,g2⟩:=h;refine⟨g1,?_⟩;rcases g2 with g2|⟨g,cap,cur,rfl,g3,g4,g5⟩
 ·exact .inl g2
 ·refine .inr ⟨g,cap,cur,rfl,g3,?_,g5⟩;rw[hb.block g (Array.getElem?_eq_some_iff.1 g4).1];exact g4
section
variable {w:World}
end
end
theorem bool_any (b:Bool) (w:World):Calls prog 165 #[.bool b] w λe w'=>e=.returned (.int .i64 (boolN b))/\w'=w:=by
 cases b
 ·go_enter func165,ntmps165;go_wp2;go_ret;exact⟨rfl,rfl⟩
 ·go_enter func165,ntmps165;go_wp2;go_ret;exact⟨rfl,rfl⟩
theorem xor_m1 (a:Int) (h : -2147483648<=a/\a<=2147483647):bits .xor .i64 (-1) a = -1-a:=by
 rw[Ap.bits_xor _ _ ⟨by decide,by decide⟩ h];have e:bits .xor .i32 (-1) a=IntKind.i32.wrap (((BitVec.ofInt 32 (-1)) ^^^ (BitVec.ofInt 32 a)).toNat:Int):=rfl;rw[e,Ap.wrap_toNat32];have e1:BitVec.ofInt 32 (-1)=BitVec.allOnes 32:=by decide
 rw[e1,BitVec.allOnes_xor,BitVec.toInt_not];have e2:(BitVec.ofInt 32 a).toNat=(a % 4294967296).toNat:=by simp[BitVec.toNat_ofInt]
 rw[e2];have h3:(0:Int)<=a % 4294967296:=by omega
 simp only[Int.bmod];omega
theorem unS_any (op a:Int) (h0:0<=op) (h2:op<=2) (ha:inB a) (w:World):Calls prog 166 #[.int .i64 op,.int .i64 a] w λe w'=>e=.returned (.int .i64 (unN op a))/\w'=w:=by
 obtain⟨ha0,ha1⟩:=ha;have:op=0∨op=1∨op=2:=by omega
 rcases this with rfl|rfl|rfl
 ·have HE:Hid (unN 0 a=wrap32 (-a)):=by show _=_;simp[unN,w32]
  have HW:Hid (wrap64 (wrap32 (-a))=wrap32 (-a)):=Ap.w64_32 _;go_enter func166,ntmps166;go_wp2
  all_goals go_ret
  all_goals refine⟨Ap.ret_intA ?_,rfl⟩
  all_goals first|exact HE.o.symm|exact HW.o.trans HE.o.symm
 ·by_cases hz:a=0
  ·subst hz;go_enter func166,ntmps166;go_wp2
   all_goals go_ret
   all_goals exact⟨rfl,rfl⟩
  ·have HE:Hid (unN 1 a=0):=by show _=_;simp[unN,boolN,hz]
   have hzb:(a == 0)=false:=by simp[hz]
   go_enter func166,ntmps166;go_wp2
   all_goals go_ret
   all_goals exact⟨Ap.ret_intA HE.o.symm,rfl⟩
 ·have HE:Hid (unN 2 a = -1-a):=by show _=_;simp only[unN,w32];rw[if_neg (by decide),if_neg (by decide)];exact Ap.w32_id _ ⟨by omega,by omega⟩
  go_enter func166,ntmps166;go_wp2
  all_goals go_ret
  all_goals refine⟨Ap.ret_intA ?_,rfl⟩
  all_goals first|exact HE.o.symm|(rw[HE.o];exact xor_m1 a ⟨ha0,ha1⟩)
theorem unI_any (op a:Int) (h0:0<=op) (h2:op<=2) (ha:inB a) (w:World):Calls prog 186 #[.int .i64 op,.int .i64 a] w λe w'=>e=.returned (.int .i64 (unN op a))/\w'=w:=by
 obtain⟨ha0,ha1⟩:=ha;have:op=0∨op=1∨op=2:=by omega
 rcases this with rfl|rfl|rfl
 ·have HE:Hid (unN 0 a=wrap32 (-a)):=by show _=_;simp[unN,w32]
  have HW:Hid (wrap64 (wrap32 (-a))=wrap32 (-a)):=Ap.w64_32 _;go_enter func186,ntmps186;go_wp2
  all_goals go_ret
  all_goals refine⟨Ap.ret_intA ?_,rfl⟩
  all_goals first|exact HE.o.symm|exact HW.o.trans HE.o.symm
 ·by_cases hz:a=0
  ·subst hz;go_enter func186,ntmps186;go_wp2
   all_goals go_ret
   all_goals exact⟨rfl,rfl⟩
  ·have HE:Hid (unN 1 a=0):=by show _=_;simp[unN,boolN,hz]
   have hzb:(a == 0)=false:=by simp[hz]
   go_enter func186,ntmps186;go_wp2
   all_goals go_ret
   all_goals exact⟨Ap.ret_intA HE.o.symm,rfl⟩
 ·have HE:Hid (unN 2 a = -1-a):=by show _=_;simp only[unN,w32];rw[if_neg (by decide),if_neg (by decide)];exact Ap.w32_id _ ⟨by omega,by omega⟩
  go_enter func186,ntmps186;go_wp2
  all_goals go_ret
  all_goals refine⟨Ap.ret_intA ?_,rfl⟩
  all_goals first|exact HE.o.symm|(rw[HE.o];exact xor_m1 a ⟨ha0,ha1⟩)
section
variable {B n cap:Nat} {w:World} {v:Value} {us:List Value} {a:Option Addr} {P:Program} {ops:Array Oper} {o:Oper}
theorem info_nv:(prog.info? 183).map (λi=>(i.zero,i.size,i.bytes))=some (some .nilIface,1,16):=by kernel_rfl
def VRow (B:Nat) (w:World) (v:Value) (us:List Value):Prop:=w.ownsRow B 183 1 v us.length us
theorem VRow.form (h:VRow B w v us) : ∃a cap,v=.slice a us.length cap/\us.length<=cap/\cap<=9223372036854775807/\(a=none->us = [])/\(∀ad,a=some ad->∃g,ad=⟨g,0,none⟩/\B<=g/\g<w.heap.size/\∀j u,us[j]? = some u->w.cell? ⟨g,j,none⟩=some u):=by
 have h0:=h;rcases h.2 with ⟨rfl,hn⟩|⟨g,cap,cur,rfl,hbg,hg,hnc,hcm,hcs,htake⟩
 ·refine⟨none,0,by rw[hn],by omega,by omega,λ_=>List.eq_nil_of_length_eq_zero hn,λad hh => ?_⟩;cases hh
 ·refine⟨_,cap,rfl,hnc,by unfold maxLen at hcm;omega,λhh => ?_,λad hh => ?_⟩
  ·cases hh
  ·simp only[Option.some.injEq] at hh;refine⟨g,hh.symm,hbg,(World.ownsRow.lt h0 g rfl).2,λj u hj => ?_⟩;have:=World.ownsRow.cells h0 (g:=g) rfl j u hj
   rw[addrO] at this;simpa using this
theorem VRow.head (h:VRow B w (.slice a n cap) us) (lo:Nat) (hlo:lo<=us.length):VRow B w (.slice a lo cap) (us.take lo):=by
 have hl:(us.take lo).length=lo:=by simp;omega
 rcases h.2 with ⟨he,hn⟩|⟨g,cap',cur,he,hbg,hg,hnc,hcm,hcs,htake⟩
 ·simp only[Value.slice.injEq] at he;obtain⟨rfl,rfl,rfl⟩:=he;have:lo=0:=by omega
  subst this;refine⟨by simp,.inl ⟨by simp,by simp⟩⟩
 ·simp only[Value.slice.injEq] at he;obtain⟨rfl,rfl,rfl⟩:=he;refine⟨by simp,.inr ⟨g,cap,cur,by rw[hl],hbg,hg,by rw[hl];omega,hcm,hcs,?_⟩⟩;rw[hl,<-htake,List.take_take,Nat.mul_one,Nat.mul_one,Nat.min_eq_left o_]
theorem VRow.own (h:VRow B w v us) (g:Nat) (hg:v.ownBlock=some g):B<=g/\g<w.heap.size:=World.ownsRow.lt h g hg
def Src (w:World) (v:Value) (us:List Value):Prop:=∃a cap,v=.slice a us.length cap/\(a=none->us = [])/\∀ad,a=some ad->∀j u,us[j]? = some u->w.cell? (ad.add j)=some u
theorem Src.below {w':World} (h:Src w v us) (hb:Below w.heap.size w w'):Src w' v us:=by
 obtain⟨a,cap,rfl,h1,h2⟩:=h;refine⟨a,cap,rfl,h1,λad he j u hj => ?_⟩;have:=h2 ad he j u hj
 exact (hb.cell (p:=ad.add j) (b_ this)).trans this
theorem VRow.tail (h:VRow B w (.slice a n cap) us) (lo:Nat) (hlo:lo<=us.length):Src w (.slice (if cap=lo then a else a.map (·.add (lo*1))) (n-lo) (cap-lo)) (us.drop lo):=by
 obtain⟨a',cap',he,hlc,_,h1,h2⟩:=h.form;simp only[Value.slice.injEq] at he;obtain⟨rfl,rfl,rfl⟩:=he;refine⟨_,_,by rw[List.length_drop],λhh => ?_,λad hh j u hj => ?_⟩
 ·have ha:a=none:=by
   split at hh
   ·exact hh
   ·cases a with
    | none=>rfl
    | some x=>cases hh
  rw[h1 ha];simp
 ·have hj':=(List.getElem?_eq_some_iff.mp hj).1;rw[List.length_drop] at hj';rw[if_neg o_] at hh;cases a with
  | none=>cases hh
  | some x=>
   simp only[Option.map_some,Option.some.injEq] at hh;obtain⟨g,rfl,_,_,h3⟩:=h2 x rfl;subst hh;rw[List.getElem?_drop] at hj;have:=h3 _ _ hj
   rw[addrO,addrO];simpa using this
theorem run_appV (base:Nat) (t ty e:TypeId) (i:TypeInfo) (z:Value) (ht:P.underlying t=some (.slice e)) (hi:P.info? e=some i) (hz:i.zero=some z)
  (hsize:i.size=1) (hby:i.bytes=16) (hzs:z.cells.size=1)
  (v:Value) (xs:List Value) (hown:w.ownsRow base e 1 v xs.length xs) (x:Value) (us:List Value) (hx:Src w x us) (h1 : ∀u∈us,u.oneCell'=true)
  (hm:xs.length+us.length<=10000000) (hbase:base<=w.heap.size) :
  ∃v' w',(Builtin.append_ #[t,t] ty #[v,x]).run P w=.ok v' w'/\w'.ownsRow base e 1 v' (xs++us).length (xs++us)/\w.grownBy w' v.ownBlock/\∀k,v'.ownBlock=some k->v.ownBlock=some k∨w.heap.size<=k:=by
 obtain⟨a,cap,rfl,h2,h3⟩:=hx;cases a with
 | none=>
  obtain rfl:=h2 rfl;have hr:(Builtin.append_ #[t,t] ty #[v,.slice none ([]:List Value).length cap]).run P w=.ok v w:=by
   rcases hown.2 with ⟨rfl,hn⟩|⟨g,cap',cur,rfl,_,_,hnc,_⟩
   ·simp[Builtin.append_,run_underlying ht,sizeOf,typeInfo,hi,Builtin.lenOf,Builtin.firstCells]
   ·simp[Builtin.append_,run_underlying ht,sizeOf,typeInfo,hi,Builtin.lenOf,Builtin.firstCells,hnc,storeCells]
  refine⟨v,w,hr,by simpa using hown,⟨rfl,rfl,rfl,n_,λ_ _ _=>rfl⟩,λk hk=>.inl hk⟩
 | some ad=>
  obtain⟨v',w',r1,r2,r3,r4⟩:=app_freshG (P:=P) (w:=w) base t ty e i z 1 16 ht hi hz hsize hby hzs (by decide) v xs.length xs hown ad us.length cap us (by simp) (h3 ad rfl) h1 hm (by decide) hbase;exact⟨v',w',r1,by rw[l_a];exact r2,r3,r4⟩
theorem step_appV {a:Act} {K:Act->World->Prop} {Q:Exit->Act->World->Prop} {E:Prop} (hgd:o.guard=none) (s x:Operand) (t:TypeId)
  (ho:o.op=.call {callee:=.builtin .append,args:=#[s,x],argTypes:=#[t,t]})
  (base:Nat) (e:TypeId) (i:TypeInfo) (z:Value) (ht:P.underlying t=some (.slice e)) (hi:P.info? e=some i) (hz:i.zero=some z)
  (hsize:i.size=1) (hby:i.bytes=16) (hzs:z.cells.size=1)
  (v:Value) (xs:List Value) (hs:a.eval s=v) (hown:w.ownsRow base e 1 v xs.length xs) (xv:Value) (us:List Value) (hxv:a.eval x=xv) (hx:Src w xv us) (h1 : ∀u∈us,u.oneCell'=true)
  (hm:xs.length+us.length<=10000000) (hbase:base<=w.heap.size)
  (h : ∀v' w',w'.ownsRow base e 1 v' (xs++us).length (xs++us)->w.grownBy w' v.ownBlock->(∀k,v'.ownBlock=some k->v.ownBlock=some k∨w.heap.size<=k)->K (a.put o.dst v') w') :
  if Region.wanted o (yielded ops a.tmps)=true then Oper.wp P o a w K Q else E:=by
 have hw:Region.wanted o (yielded ops a.tmps)=true:=by simp[Region.wanted,hgd]
 rw[if_pos hw];obtain⟨v',w',hr,h2,h3,h4⟩:=run_appV (P:=P) (w:=w) base t o.type e i z ht hi hz hsize hby hzs v xs hown xv us hx h1 hm hbase;unfold Oper.wp execOp;simp only[ho,resolve,invoke,builtin,Sem.run_bind,Sem.run_pure,Result.andThen_ok,List.map_toArray,List.map_cons,List.map_nil,hs,hxv,hr];exact h v' w' h2 h3 h4
theorem wpList_appV {rest:List Oper} {a:Act} {Q:Exit->Act->World->Prop} (hgd:o.guard=none) (s x:Operand) (t:TypeId)
  (ho:o.op=.call {callee:=.builtin .append,args:=#[s,x],argTypes:=#[t,t]})
  (base:Nat) (e:TypeId) (i:TypeInfo) (z:Value) (ht:P.underlying t=some (.slice e)) (hi:P.info? e=some i) (hz:i.zero=some z)
  (hsize:i.size=1) (hby:i.bytes=16) (hzs:z.cells.size=1)
  (v:Value) (xs:List Value) (hs:a.eval s=v) (hown:w.ownsRow base e 1 v xs.length xs) (xv:Value) (us:List Value) (hxv:a.eval x=xv) (hx:Src w xv us) (h1 : ∀u∈us,u.oneCell'=true)
  (hm:xs.length+us.length<=10000000) (hbase:base<=w.heap.size)
  (h : ∀v' w',w'.ownsRow base e 1 v' (xs++us).length (xs++us)->w.grownBy w' v.ownBlock->(∀k,v'.ownBlock=some k->v.ownBlock=some k∨w.heap.size<=k)->wpList P ops Q rest (a.put o.dst v') w'):wpList P ops Q (o::rest) a w:=by
 refine wpList_plain hgd λK hK => ?_;obtain⟨v',w',hr,h2,h3,h4⟩:=run_appV (P:=P) (w:=w) base t o.type e i z ht hi hz hsize hby hzs v xs hown xv us hx h1 hm hbase;unfold Oper.wp execOp;simp only[ho,resolve,invoke,builtin,Sem.run_bind,Sem.run_pure,Result.andThen_ok,List.map_toArray,List.map_cons,List.map_nil,hs,hxv,hr];exact hK _ _ (h v' w' h2 h3 h4)
theorem clone_nv (v:Value) (us:List Value) (w:World) (hl:us.length<=2097152) (h:Src w v us) (h1 : ∀u∈us,u.oneCell'=true) :
  Calls prog 176 #[v] w λe w'=>∃u,e=.returned u/\VRow w.heap.size w' u us/\Below w.heap.size w w':=by
 obtain⟨i0,hi,hz0,hz1,hz2⟩:=info_parts info_nv;have hs:=h.below ((Below.refl w.heap.size w).alloc n_ (.cells #[] 183));obtain⟨a,cap,rfl,ha,hr⟩:=h;cases a with
 | none=>
  obtain rfl:=ha rfl;simp only[l_n];have hnil : ∀w:World,(binOp .eql 226 (.slice none 0 cap) (.slice none 0 0)).run prog w=.ok (.bool true) w:=λw=>Lib.run_eql_slice_nil w 226 183 none 0 cap 0 0 underlying226;go_enter func176,ntmps176;go_wp2
  go_ret;exact⟨_,rfl,World.ownsRow_nil _ _ _ _,r_⟩
 | some ad=>
  have hnil : ∀w:World,(binOp .eql 226 (.slice (some ad) us.length cap) (.slice none 0 0)).run prog w=.ok (.bool false) w:=λw=>Lib.run_eql_slice_nil w 226 183 (some ad) us.length cap 0 0 underlying226;go_enter func176,ntmps176;go_wp2_with (at_builtin;refine wpList_appV rfl _ _ 226 rfl w.heap.size 183 i0 .nilIface underlying226 hi hz0 hz1 hz2 rfl _ [] rfl (World.ownsRow_lit w #[] 0 n_ (by decide) rfl) _ us rfl hs h1 (by simp;omega) (by simp) ?_)
  intro v' w1 hown hgrow _;have hb:Bl w w1:=(bel_a _ _).grown hgrow (by simp) (by simp[Value.ownBlock]);try rw[List.nil_append] at hown
  have HL:=hide hown;go_wp2
  go_ret;exact⟨_,rfl,HL,hb⟩
end
section
variable {B n:Nat} {w:World} {v:Value} {xs:List Value}
theorem own_notU {T:TypeId} {sz:Nat} {S:Nat->Prop} {w':World} (h:w.ownsRow B T sz v n xs) (ht:Tcs S w w') (hS : ∀k,v.ownBlock=some k->¬S k):w'.ownsRow B T sz v n xs:=by
 obtain⟨hx,h|⟨g,cap,cur,rfl,h1,h2,h3⟩⟩:=h
 ·exact⟨hx,.inl h⟩
 ·exact⟨hx,.inr ⟨g,cap,cur,rfl,h1,(ht.block g (Array.getElem?_eq_some_iff.1 h2).1 (hS g rfl)).trans h2,h3⟩⟩
theorem own_shapeU {size:Nat} {e:TypeId} (h:w.ownsRow B e size v n xs) : ∃a c,v=.slice a n c/\(a=none->n=0):=by
 rcases h.2 with ⟨rfl,hz⟩|⟨g,cap,cur,rfl,_⟩
 ·exact⟨none,0,by rw[hz],λ_=>hz⟩
 ·exact⟨_,cap,rfl,(λh=>by cases h)⟩
end
abbrev EntJ:=List Nd × List Nd × Value
def vsJ (L:List EntJ) (i:Nat):Value:=(L.getD i ([],[],.nilIface)).2.2
def fsJ (L:List EntJ) (i:Nat):List Nd:=(L.getD i ([],[],.nilIface)).2.1
structure RJ (w wr:World) (e:List Nd) (k:Nat) (v:Value) (T:List EntJ) (S:Nat->Prop):Prop where
 flat:(T.map (·.1)).flatten=e.take k
 each : ∀t∈T,oneB t.1=true/\t.2.1=t.1/\Tv wr S t.2.2 t.2.1
 row:VRow w.heap.size wr v (T.map (·.2.2))
 sep : ∀B,S B->w.heap.size<=B/\B<wr.heap.size/\v.ownBlock≠some B
 bel:Below w.heap.size w wr
theorem RJ.below {w wr w':World} {e:List Nd} {k:Nat} {v:Value} {T:List EntJ} {S:Nat->Prop} (h:RJ w wr e k v T S) (hb:Below wr.heap.size wr w'):RJ w w' e k v T S:=by
 refine⟨h.flat,λt ht=>⟨(h.each t ht).1,(h.each t ht).2.1,(h.each t ht).2.2.bel (λB hB=>(h.sep B hB).2.1) hb⟩,ownB h.row hb,λB hB => ?_,h.bel.trans (hb.mono h.bel.size)⟩;have:=h.sep B hB
 exact⟨this.1,l_ this.2.1 hb.size,this.2.2⟩
theorem RJ.one {w wr:World} {e:List Nd} {k:Nat} {v:Value} {T:List EntJ} {S:Nat->Prop} (h:RJ w wr e k v T S) : ∀u∈T.map (·.2.2),u.oneCell'=true:=by
 intro u hu;simp only[List.mem_map] at hu;obtain⟨t,ht,rfl⟩:=hu;obtain⟨a,b,hab⟩:=(h.each t ht).2.2.isI;rw[hab];rfl
theorem RJ.segs {w wr:World} {e:List Nd} {k:Nat} {v:Value} {T:List EntJ} {S:Nat->Prop} (h:RJ w wr e k v T S) : ∀s∈T.map (·.1),oneB s=true:=by
 intro s hs;simp only[List.mem_map] at hs;obtain⟨t,ht,rfl⟩:=hs;exact (h.each t ht).1
def addJ (S:Nat->Prop) (u:Value) (B:Nat):Prop:=S B∨u.ownBlock=some B
theorem RJ.kids {w wr w3:World} {e:List Nd} {k:Nat} {v:Value} {T:List EntJ} {S:Nat->Prop} (h:RJ w wr e k v T S) (lo A:Nat) (hlo:lo+A=T.length) (hb:Below wr.heap.size wr w3) {u:Value} (hu:VRow wr.heap.size w3 u ((T.drop lo).map (·.2.2))) :
  Args w3 (addJ S u) u A (vsJ (T.drop lo))/\(∀i,i<A->Tv w3 (addJ S u) (vsJ (T.drop lo) i) (fsJ (T.drop lo) i))/\∀B,addJ S u B->B<w3.heap.size:=by
 have hlen:(T.drop lo).length=A:=by simp;omega
 have hget : ∀i (hi:i<A),(T.drop lo).getD i ([],[],.nilIface)=(T.drop lo)[i]' o_/\(T.drop lo)[i]' o_∈T:=by
  intro i hi;refine⟨by simp[List.getD,List.getElem?_eq_getElem (show i<(T.drop lo).length by omega)],List.mem_of_mem_drop (g_ _)⟩
 refine⟨?_,λi hi => ?_,λB hB => ?_⟩
 ·obtain⟨a,cap,rfl,h1,h2,h3,h4⟩:=hu.form;simp only[List.length_map,hlen] at h1 ⊢;refine⟨a,cap,rfl,h1,h2,λh0 => ?_⟩;cases a with
  | none=>
   have:=h3 rfl
   have h5:=congrArg List.length this;simp only[List.length_map,l_n] at h5;omega
  | some ad=>
   obtain⟨g,rfl,hg1,hg2,hc⟩:=h4 ad rfl;refine⟨g,rfl,.inr rfl,λi hi => ?_⟩;refine hc i _ ?_;rw[List.getElem?_map,List.getElem?_eq_getElem (show i<(T.drop lo).length by omega),Option.map_some,vsJ,(hget i hi).1]
 ·have:=(h.each _ (hget i hi).2).2.2
  rw[vsJ,fsJ,(hget i hi).1];exact this.keep (λB hB=>.inl hB) (λB hB=>hb.block B (h.sep B hB).2.1)
 ·rcases hB with hB|hB
  ·exact l_ (h.sep B hB).2.1 hb.size
  ·exact (hu.own B hB).2
theorem RJ.step {w wr w3 w4 w5 w6:World} {e:List Nd} {k:Nat} {v v' u u':Value} {T:List EntJ} {S:Nat->Prop} (h:RJ w wr e k v T S) (hk:k<e.length) (lo A:Nat) (hlo:lo+A=T.length) (hn:nodeB e[k]=true) (hA:arity e[k]=A)
  (hb:Below wr.heap.size wr w3) (hu:VRow wr.heap.size w3 u ((T.drop lo).map (·.2.2))) (hb4:Below w3.heap.size w3 w4) (hT:Tv w4 (addJ S u) u' (joinF (fsJ (T.drop lo)) A++[e[k]])) (hb5:Below w4.heap.size w4 w5)
  (hr:VRow w.heap.size w6 v' ((T.take lo).map (·.2.2)++[u'])) (hg:w5.grownBy w6 v.ownBlock) (hf : ∀g,v'.ownBlock=some g->v.ownBlock=some g∨w5.heap.size<=g) :
  ∃T' S',RJ w w6 e (k+1) v' T' S':=by
 have hvo : ∀g,v.ownBlock=some g->w.heap.size<=g/\g<wr.heap.size:=λg hg=>h.row.own g hg;have hb5':Bl wr w5:=(hb.trans (hb4.mono hb.size)).trans (hb5.mono (t_ hb.size hb4.size));have hSlt : ∀B,addJ S u B->B<w3.heap.size/\w.heap.size<=B/\v.ownBlock≠some B:=by
  intro B hB;rcases hB with hB|hB
  ·exact⟨l_ (h.sep B hB).2.1 hb.size,(h.sep B hB).1,(h.sep B hB).2.2⟩
  ·have h1:=hu.own B hB;have h2:=h.bel.size;refine⟨h1.2,by omega,λhh => ?_⟩;have:=hvo B hh
   omega
 have hs5:w3.heap.size<=w5.heap.size:=t_ hb4.size hb5.size;have hkeep : ∀B,addJ S u B->w6.heap[B]? = w5.heap[B]? := λB hB=>hg.block B (by have:=(hSlt B hB).1;omega) (λhh=>(hSlt B hB).2.2 hh.symm);refine⟨T.take lo++[(((T.drop lo).map (·.1)).flatten++[e[k]],joinF (fsJ (T.drop lo)) A++[e[k]],u')],addJ S u,?_,?_,?_,?_,?_⟩
 ·simp only[List.map_append,List.map_cons,List.map_nil,List.flatten_append,List.flatten_cons,List.flatten_nil,List.append_nil];rw[<-List.append_assoc,<-List.flatten_append,<-List.map_append,List.take_append_drop,h.flat,List.take_succ_eq_append_getElem hk]
 ·intro t ht;rw[List.mem_append] at ht;rcases ht with ht|ht
  ·have:=h.each t (List.mem_of_mem_take ht)
   refine⟨this.1,this.2.1,this.2.2.keep (λB hB=>.inl hB) (λB hB => ?_)⟩;rw[hkeep B (.inl hB)];exact hb5'.block B (h.sep B hB).2.1
  ·simp only[List.mem_singleton] at ht;subst ht;have hsegs : ∀s∈(T.drop lo).map (·.1),oneB s=true:=by
    intro s hs;simp only[List.mem_map] at hs;obtain⟨t,ht,rfl⟩:=hs;exact (h.each t (List.mem_of_mem_drop ht)).1
   have hlen:((T.drop lo).map (·.1)).length=A:=by simp;omega
   refine⟨push_one _ _ hn (by rw[hlen,hA]) hsegs,?_,hT.keep (λ_ hB=>hB) (λB hB => ?_)⟩
   ·have hj : ∀m,m<=A->joinF (fsJ (T.drop lo)) m=(((T.drop lo).map (·.1)).take m).flatten:=by
     intro m;induction m with
     | zero=>intro _;rfl
     | succ m ih=>
      intro hm;have hm':m<(T.drop lo).length:=by simp;omega
      rw[joinF,ih o_,List.take_succ_eq_append_getElem (by simpa using hm'),List.flatten_append];simp only[List.getElem_map,List.flatten_cons,List.flatten_nil,List.append_nil];congr 1
      rw[fsJ];simp only[List.getD,List.getElem?_eq_getElem hm',Option.getD_some];exact (h.each _ (List.mem_of_mem_drop (g_ _))).2.1
    rw[hj A n_,List.take_of_length_le (by rw[hlen];exact n_)]
   ·rw[hkeep B hB];exact hb5.block B (by have:=(hSlt B hB).1;have:=hb4.size;omega)
 ·have e1:(T.take lo++[(((T.drop lo).map (·.1)).flatten++[e[k]],joinF (fsJ (T.drop lo)) A++[e[k]],u')]).map (·.2.2)=(T.take lo).map (·.2.2)++[u']:=by simp
  rw[e1];exact hr
 ·intro B hB;have h1:=hSlt B hB;refine⟨h1.2.1,by have:=hg.size;omega,λhh => ?_⟩;rcases hf B hh with h2|h2
  ·exact h1.2.2 h2
  ·omega
 ·have hb0:Bl w w5:=h.bel.trans (hb5'.mono h.bel.size);exact hb0.grown hg hb0.size (λg hg=>(hvo g hg).1)
theorem RJ.fin {w wr:World} {e:List Nd} {v:Value} {T:List EntJ} {S:Nat->Prop} (h:RJ w wr e e.length v T S) (he:oneB e=true) : ∃u g,(∃cap,v=.slice (some ⟨g,0,none⟩) 1 cap)/\wr.cell? ⟨g,0,none⟩=some u/\Tv wr S u e:=by
 have h1:T.map (·.1) = [e]:=segs_end he h.segs (by rw[h.flat,List.take_length]);have hl:T.length=1:=by have:=congrArg List.length h1;simpa using this
 obtain⟨t,rfl⟩:=List.length_eq_one_iff.1 hl;simp only[List.map_cons,List.map_nil,List.cons.injEq,and_true] at h1;have h2:=h.each t (by simp);rw[h1] at h2;rw[h2.2.1] at h2;obtain⟨a,cap,hv,_,_,h5,h6⟩:=h.row.form;cases a with
 | none=>have:=h5 rfl;simp at this
 | some ad=>
  obtain⟨g,rfl,_,_,h7⟩:=h6 ad rfl;exact⟨t.2.2,g,⟨cap,hv⟩,h7 0 _ (by simp),h2.2.2⟩
end Go.Proofs.YtffnkkpmlplfeaaGreatDoor
