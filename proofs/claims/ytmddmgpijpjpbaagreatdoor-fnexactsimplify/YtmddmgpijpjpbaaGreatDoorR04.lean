import Derived.Test.YtmddmgpijpjpbaaGreatDoorR03
import Derived.WalkKit
import Derived.OwnWalk
import Derived.Laws.OwnMore
import Derived.Laws.AppendOwnNone
import Derived.Shelf.SlGeneric
import Derived.Shelf.SlicesQ.Reverse
import Derived.Ground.SlgnProg
import Derived.Lib.OwnBridge
import Derived.Test.YtmddmgpijpjpbaaGreatDoorProg
namespace Go.Proofs.YtmddmgpijpjpbaaGreatDoor
open Go.RowKit
open Go.Shelf
open Go.RowKit Go.Sort
set_option linter.unusedVariables false
set_option linter.unusedSimpArgs false
set_option maxRecDepth 100000
set_option maxHeartbeats 16000000
def NodesC (w:World) (b off:Nat) (ns:List Nd):Prop:=∀j (h:j<ns.length),
 w.cell? ⟨b,off+j*3,none⟩=some (.int .i64 ns[j].kind)/\w.cell? ⟨b,off+j*3+1,none⟩=some (.int .i64 ns[j].val)/\w.cell? ⟨b,off+j*3+2,none⟩=some (.string ns[j].name)
theorem NodesC.below {w w':World} {b off:Nat} {ns:List Nd} (h:NodesC w b off ns) (hb:Below w.heap.size w w'):NodesC w' b off ns:=by
 intro j hj
 obtain ⟨c0,c1,c2⟩:=h j hj
 have hlt:=World.block_lt_of_cell? _ _ c0
 exact ⟨(hb.cell hlt).trans c0,(hb.cell (p:=⟨b,off+j*3+1,none⟩) hlt).trans c1,(hb.cell (p:=⟨b,off+j*3+2,none⟩) hlt).trans c2⟩
def Nodes (w:World) (v:Value) (ns:List Nd):Prop:=∃a cap,v = .slice a ns.length cap/\ns.length<=cap/\cap<=9223372036854775807/\(0<ns.length->∃b off,a=some ⟨b,off,none⟩/\NodesC w b off ns)
theorem Nodes.below {w w':World} {v:Value} {ns:List Nd} (h:Nodes w v ns) (hb:Below w.heap.size w w'):Nodes w' v ns:=by
 obtain ⟨a,cap,rfl,hl,hm,h⟩:=h
 refine ⟨a,cap,rfl,hl,hm,fun h0 => ?_⟩
 obtain ⟨b,off,rfl,hc⟩:=h h0
 exact ⟨b,off,rfl,hc.below hb⟩
theorem box3 {w w':World} {t:TypeId} {x y z:Value} (h:Below (w.heap.size+1) (w.alloc (.cells #[x,y,z] t)) w') :
  w'.cell? ⟨w.heap.size,0,none⟩=some x/\w'.cell? ⟨w.heap.size,1,none⟩=some y/\w'.cell? ⟨w.heap.size,2,none⟩=some z:=by
 refine ⟨?_,?_,?_⟩ <;> (rw [h.cell (by simp)];simp)
theorem one_any (v:Value) (ns:List Nd) (w:World) (hT:Tab w) (hl:ns.length<=1048576) (hc:Nodes w v ns) :
  Calls Tryz.prog 145 #[v] w fun e w'=>e = .returned (.bool (oneB ns))/\Below w.heap.size w w':=by
 obtain ⟨a,cap,rfl,hcl,hcm,hc⟩:=hc
 have HC:=hide hc
 clear hc
 go_enter Tryz.func145,Tryz.ntmps145
 go_wp2_with fail
 go_loopw [3,8] (fun r i wr=>∃(k:Nat) (q:Int),k<=ns.length/\i = .int .i64 k/\r = .int .i64 q/\wholeTo (ns.take k) 0=some q/\Bl w wr) (fun _ i _=>ns.length-(intOf i).toNat)
 case atStart=>exact ⟨0,0,Nat.zero_le _,rfl,rfl,rfl,Below.refl _ _⟩
 case round=>
  obtain ⟨k,q,hk,rfl,rfl,hq,hB⟩:=hrel
  have HQ:=hide hq
  have hqb:=wholeTo_bd _ _ _ hq (Int.le_refl 0)
  have hql:q<=1048576:=by have:=hqb.2;simp at this;omega
  have hq0:=hqb.1
  clear hq hqb
  by_cases hlt:k<ns.length
  ·obtain ⟨b,off,rfl,hc⟩:=HC.out (by omega)
   obtain ⟨d0,d1,d2⟩:=(hc.below hB) k hlt
   have HT:Hid (Tab wr):=hT.below hT.size hB
   have hsz:=hT.size
   have HS:Hid _:=wholeTo_step ns k q hlt HQ.out
   clear hc hT HC
   generalize hn:ns[k]=n at d0 d1 d2 HS
   clear hn
   go_wp2_with fail
   refine (vnode_any n _ (HT.out.below HT.out.size (bel_a _ _))).mono ?_
   rintro e w1 ⟨rfl,hb1⟩
   simp only [World.size_alloc] at hb1
   have hB1:=hB.trans (((bel_a _ _).trans (hb1.mono (by omega))).mono hB.size)
   cases hv:nodeB n
   ·go_wp2_with fail
    go_ret
    refine ⟨ret_bool (oneB_none ns (k+1) ?_).symm,hB1⟩
    rw [HS.out,if_neg (by simp [hv])]
   ·obtain ⟨e0,e1,e2⟩:=box3 hb1
    have hT1:Hid (Tab w1):=HT.out.below HT.out.size ((bel_a _ _).trans (hb1.mono (by omega)))
    have hkb:=kind_good hv
    have hab:=arity_good hv
    go_wp2_with fail
    refine (opc_any n _ hT1.out hkb).mono ?_
    rintro e w2 ⟨rfl,hb2⟩
    have hb2':=hb1.trans (hb2.mono (by have:=hb1.size;simp at this;omega))
    have hB2:=hB.trans (((bel_a _ _).trans (hb2'.mono (by omega))).mono hB.size)
    obtain ⟨f0,f1,f2⟩:=box3 hb2'
    have hT2:Hid (Tab w2):=hT1.out.below hT1.out.size hb2
    clear e0 e1 e2 d0 d1 d2
    by_cases ha:q<arity n
    ·go_wp2_with fail
     go_ret
     refine ⟨ret_bool (oneB_none ns (k+1) ?_).symm,hB2⟩
     rw [HS.out,if_neg (by omega)]
    ·go_wp2_with fail
     refine (opc_any n _ hT2.out hkb).mono ?_
     rintro e w3 ⟨rfl,hb3⟩
     have hB3:=hB2.trans (hb3.mono hB2.size)
     clear f0 f1 f2
     go_wp2_with fail
     go_roundw
     case rel=>exact ⟨k+1,q+1-arity n,by omega,by go_num,by rw [show q+(1-arity n)=q+1-arity n by omega],by rw [HS.out,if_pos ⟨hv,by omega⟩],hB3⟩
     case measure=>simp [intOf];omega
  ·go_wp2_with fail
   go_ret
   obtain rfl:k=ns.length:=by omega
   exact ⟨ret_bool (oneB_some ns q HQ.out).symm,hB⟩
theorem arity_nd (n:Nd) (w:World):Calls Tryz.prog 142 #[.agg #[.int .i64 n.kind,.int .i64 n.val,.string n.name]] w fun e w'=>e = .returned (.int .i64 (arity n))/\Below w.heap.size w w':=arity_any n.kind n.val n.name w
theorem from_any (v:Value) (ns:List Nd) (w:World) (hl:ns.length<=1048576) (hg:goodAll ns) (hc:Nodes w v ns) :
  Calls Tryz.prog 143 #[v] w fun e w'=>∃r,fromP ns r /\ -1<=r/\r<=1048576/\e = .returned (.int .i64 r)/\Below w.heap.size w w':=by
 obtain ⟨a,cap,rfl,hcl,hcm,hc⟩:=hc
 have HC:=hide hc
 have HG:=hide hg
 clear hc hg
 go_enter Tryz.func143,Tryz.ntmps143
 go_wp2_with fail
 go_loopw [3,4] (fun r i wr=>∃(k:Nat) (q:Int),k<=ns.length/\i = .int .i64 k/\r = .int .i64 q/\q=defc (ns.drop k)/\0<=q/\(∀j,k<j->j<=ns.length->1<=defc (ns.drop j))/\Bl w wr) (fun _ i _=>(intOf i).toNat)
 case atStart=>exact ⟨ns.length,1,Nat.le_refl _,rfl,rfl,by simp [defc],by omega,fun j h1 h2=>absurd h2 (by omega),Below.refl _ _⟩
 case round=>
  obtain ⟨k,q,hk,rfl,rfl,hq,hq0,hj,hB⟩:=hrel
  have hqb:=defc_le _ (goodAll_drop HG.out k)
  have hq1:q<=6291457:=by rw [hq];simp at hqb;omega
  have HQ:=hide hq
  have HJ:=hide hj
  clear hq hj hqb
  by_cases h0:0<q
  ·by_cases hk0:k=0
   ·subst hk0
    go_wp2_with fail
    go_ret
    refine ⟨-1,.inr ⟨rfl,fun j hj => ?_⟩,by omega,by omega,rfl,hB⟩
    rcases Nat.eq_zero_or_pos j with rfl | hp
    ·rw [<-HQ.out];omega
    ·exact HJ.out j hp hj
   ·obtain ⟨m,rfl⟩ : ∃m,k=m+1:=⟨k-1,by omega⟩
    obtain ⟨b,off,rfl,hc⟩:=HC.out (by omega)
    obtain ⟨d0,d1,d2⟩:=(hc.below hB) m (by omega)
    have hab:=arity_good (HG.out ns[m] (List.getElem_mem _))
    have HD:Hid _:=defc_drop ns m (by omega)
    clear hc HC
    generalize hn:ns[m]=n at d0 d1 d2 HD hab
    clear hn
    have e1:((m+1:Nat):Int)-1=(m:Int):=by omega
    go_wp2_with fail
    refine (arity_nd n _).mono ?_
    rintro e w1 ⟨rfl,hb1⟩
    have hB1:=hB.trans (hb1.mono hB.size)
    clear d0 d1 d2
    go_wp2_with fail
    go_roundw
    case rel=>
     refine ⟨m,q-1+arity n,by omega,by go_num,rfl,?_,by omega,fun j h1 h2 => ?_,hB1⟩
     ·rw [HD.out,<-HQ.out];omega
     ·by_cases e:j=m+1
      ·subst e;rw [<-HQ.out];omega
      ·exact HJ.out j (by omega) h2
    case measure=>simp [intOf]
  ·go_wp2_with fail
   go_ret
   refine ⟨k,.inl ⟨k,rfl,?_,?_,HJ.out⟩,by omega,by omega,rfl,hB⟩
   ·rcases Nat.lt_or_ge k ns.length with h | h
    ·exact h
    ·exfalso
     have:=HQ.out
     rw [List.drop_of_length_le h,defc] at this
     omega
   ·rw [<-HQ.out];omega
theorem oneB_bad {l:List Nd} {k:Nat} (hk:k<l.length) (h:nodeB l[k]=false):oneB l=false:=by
 cases e:oneB l
 ·rfl
 ·have:=((oneB_iff l).1 e).1 _ (List.getElem_mem hk)
  rw [h] at this;cases this
theorem gexpr_any (v:Value) (ns:List Nd) (w:World) (hl:ns.length<=1048576) (hc:Nodes w v ns) :
  Calls Tryz.prog 154 #[v] w fun e w'=>e = .returned (.bool (decide (ns.length<=2000) && oneB ns))/\Below w.heap.size w w':=by
 have HN:=hide hc
 obtain ⟨a,cap,rfl,hcl,hcm,hc⟩:=hc
 have HC:=hide hc
 clear hc
 by_cases h2:2000<ns.length
 ·have hd:(decide (ns.length<=2000) && oneB ns)=false:=by simp;omega
  rw [hd]
  clear hd
  go_enter Tryz.func154,Tryz.ntmps154
  go_wp2_with fail
  go_ret
  exact ⟨rfl,Below.refl _ _⟩
 ·have hd:(decide (ns.length<=2000) && oneB ns)=oneB ns:=by rw [decide_eq_true (by omega)];rfl
  rw [hd]
  clear hd
  go_enter Tryz.func154,Tryz.ntmps154
  go_wp2_with fail
  go_loopw [3] (fun i wr=>∃(k:Nat),k<=ns.length/\i = .int .i64 k/\(∀n∈ns.take k,nodeB n=true)/\Bl w wr) (fun i _=>ns.length-(intOf i).toNat)
  case atStart=>exact ⟨0,Nat.zero_le _,rfl,by simp,Below.refl _ _⟩
  case round=>
   obtain ⟨k,hk,rfl,hg,hB⟩:=hrel
   have HG:=hide hg
   clear hg
   by_cases hlt:k<ns.length
   ·obtain ⟨b,off,rfl,hc⟩:=HC.out (by omega)
    obtain ⟨d0,d1,d2⟩:=(hc.below hB) k hlt
    clear hc HC
    have HE:Hid (ns.take (k+1)=ns.take k++[ns[k]]):=take_succ ns k hlt
    have HX:Hid (nodeB ns[k]=false->oneB ns=false):=oneB_bad hlt
    generalize hn:ns[k]=n at d0 d1 d2 HE HX
    clear hn
    go_wp2_with fail
    refine (gnode_any n _).mono ?_
    rintro e w1 ⟨rfl,hb1⟩
    have hB1:=hB.trans (hb1.mono hB.size)
    clear d0 d1 d2
    cases hv:nodeB n
    ·go_wp2_with fail
     go_ret
     exact ⟨ret_bool (HX.out hv).symm,hB1⟩
    ·go_wp2_with fail
     go_roundw
     case rel=>
      refine ⟨k+1,by omega,by go_num,fun m hm => ?_,hB1⟩
      rw [HE.out] at hm
      rcases List.mem_append.1 hm with hm | hm
      ·exact HG.out m hm
      ·rw [List.mem_singleton.1 hm];exact hv
     case measure=>simp [intOf];omega
   ·have hk':k=ns.length:=by omega
    subst hk'
    have hgA:goodAll ns:=by have:=HG.out;rw [List.take_length] at this;exact this
    have HA:=hide hgA
    clear hgA
    by_cases h0:0<ns.length
    ·go_wp2_with fail
     refine (from_any _ ns _ hl HA.out (HN.out.below hB)).mono ?_
     rintro e w1 ⟨r,hr,hr1,hr2,rfl,hb1⟩
     have HR:=hide hr
     clear hr
     go_wp2_with fail
     go_ret
     exact ⟨ret_bool (fromP_one HA.out HR.out),hB.trans (hb1.mono hB.size)⟩
    ·go_wp2_with fail
     go_ret
     refine ⟨ret_bool ?_,hB⟩
     have:ns = []:=List.eq_nil_of_length_eq_zero (by omega)
     subst this
     simp [oneB,wholeTo]
theorem NodesC.up {w:World} {b off:Nat} {ns:List Nd} (h:NodesC w b off ns) (j:Nat) (hj:j<ns.length):(∀o,(w.alloc o).cell? ⟨b,off+j*3,none⟩=some (.int .i64 ns[j].kind))/\(∀o,(w.alloc o).cell? ⟨b,off+j*3+1,none⟩=some (.int .i64 ns[j].val))/\(∀o,(w.alloc o).cell? ⟨b,off+j*3+2,none⟩=some (.string ns[j].name)):=
 ⟨fun o=>((h.below ((Below.refl _ _).alloc (Nat.le_refl _) o)) j hj).1,fun o=>((h.below ((Below.refl _ _).alloc (Nat.le_refl _) o)) j hj).2.1,fun o=>((h.below ((Below.refl _ _).alloc (Nat.le_refl _) o)) j hj).2.2⟩
theorem root_any (v:Value) (ns:List Nd) (w:World) (hl:0<ns.length) (hm:ns.length<=1048576) (hc:Nodes w v ns) :
  Calls Tryz.prog 104 #[v] w fun e w'=>e = .returned (.agg #[.int .i64 (ns[ns.length-1]'(by omega)).kind,.int .i64 (ns[ns.length-1]'(by omega)).val,.string (ns[ns.length-1]'(by omega)).name])/\Below w.heap.size w w':=by
 obtain ⟨a,cap,rfl,hcl,hcm,hc⟩:=hc
 obtain ⟨b,off,rfl,hn⟩:=hc hl
 obtain ⟨d0,d1,d2⟩:=hn.up (ns.length-1) (by omega)
 generalize hn:ns[ns.length-1]=n at d0 d1 d2 ⊢
 obtain ⟨m,hm'⟩ : ∃m,ns.length=m+1:=⟨ns.length-1,by omega⟩
 rw [hm'] at d0 d1 d2 hl hm hcl ⊢
 have e1:((m+1:Nat):Int)-1=(m:Int):=by omega
 have e2:m+1-1=m:=by omega
 rw [e2] at d0 d1 d2
 go_enter Tryz.func104,Tryz.ntmps104
 go_wp2_with fail
 exact bodyPost_ret (v:=.agg #[.int .i64 n.kind,.int .i64 n.val,.string n.name]) (by simp [results,Tryz.results104,go_sem]) rfl ⟨rfl,(Below.refl _ _).alloc (Nat.le_refl _) _⟩
theorem Nodes.cut {w:World} {a:Option Addr} {cap:Nat} {ns:List Nd} (h:Nodes w (.slice a ns.length cap) ns) (lo hi:Nat) (h1:lo<=hi) (h2:hi<=ns.length) :
  Nodes w (.slice (if cap=lo then a else a.map (·.add (lo*3))) (hi-lo) (cap-lo)) ((ns.take hi).drop lo):=by
 obtain ⟨a',cap',he,hl,hm,h⟩:=h
 simp only [Value.slice.injEq,true_and] at he
 obtain ⟨rfl,rfl⟩:=he
 refine ⟨if cap=lo then a else a.map (·.add (lo*3)),cap-lo,by simp [Nat.min_eq_left h2],by simp [Nat.min_eq_left h2];omega,by omega,fun h0 => ?_⟩
 simp only [List.length_drop,List.length_take,Nat.min_eq_left h2] at h0
 obtain ⟨b,off,rfl,hc⟩:=h (by omega)
 refine ⟨b,off+lo*3,?_,fun j hj => ?_⟩
 ·rw [if_neg (by omega)];simp [Addr.add]
 ·simp only [List.length_drop,List.length_take,Nat.min_eq_left h2] at hj
  have hcc:=hc (lo+j) (by omega)
  have e:((ns.take hi).drop lo)[j]'(by simp;omega)=ns[lo+j]'(by omega):=by simp
  rw [e]
  have e1:off+lo*3+j*3=off+(lo+j)*3:=by omega
  rw [e1]
  exact hcc
theorem Nodes.head {w:World} {a:Option Addr} {cap:Nat} {ns:List Nd} (h:Nodes w (.slice a ns.length cap) ns) (hi:Nat) (h2:hi<=ns.length):Nodes w (.slice a hi cap) (ns.take hi):=by
 have:=h.cut 0 hi (Nat.zero_le _) h2
 have e:(if cap=0 then a else a.map (·.add (0*3)))=a:=by
  split
  ·rfl
  ·cases a <;> simp [Addr.add]
 rw [e] at this
 simpa using this
theorem ncut_run_l (a:Option Addr) (n cap lo:Nat) (h2:lo<=n) (h3:n<=cap) : ∀w:World,(Instr.slice 115 (.slice a n cap) (some (.int .i64 lo)) none none).run Tryz.prog w = .ok (.slice (if cap=lo then a else a.map (·.add (lo*3))) (n-lo) (cap-lo)) w:=by
 intro w
 have hz:Tryz.prog.elem 115=161:=by kernel_rfl
 have hs:(sizeOf 161).run Tryz.prog w = .ok 3 w:=by kernel_rfl
 rw [run_slice_l w 115 a n cap (by rw [hz];exact Tryz.underlying115) .i64 _ (by omega) (by omega),hz,hs]
 simp only [Result.andThen,sliced,Int.toNat_natCast]
def Kids (w0 w:World) (N:Nat) (v:Value) (e:List Nd) (b:Nat->Nat) (A:Nat):Prop:=
 ∃a cap,v = .slice a A cap/\A<=cap/\cap<=9223372036854775807/\(0<A->∃B,a=some ⟨B,0,none⟩/\N<=B/\B<w.heap.size/\∀i,i<A->∃vi,w.cell? ⟨B,i,none⟩=some vi/\Nodes w0 vi (kid e b i))
theorem Kids.below {w0 w w':World} {N:Nat} {v:Value} {e:List Nd} {b:Nat->Nat} {A:Nat} (h:Kids w0 w N v e b A) (hb:Below w.heap.size w w'):Kids w0 w' N v e b A:=by
 obtain ⟨a,cap,rfl,hl,hm,h⟩:=h
 refine ⟨a,cap,rfl,hl,hm,fun h0 => ?_⟩
 obtain ⟨B,rfl,hN,hB,hc⟩:=h h0
 refine ⟨B,rfl,hN,Nat.lt_of_lt_of_le hB hb.size,fun i hi => ?_⟩
 obtain ⟨vi,h1,h2⟩:=hc i hi
 exact ⟨vi,(hb.cell (p:=⟨B,i,none⟩) (World.block_lt_of_cell? _ _ h1)).trans h1,h2⟩
theorem info_nodes:(Tryz.prog.info? 115).map (fun i=>(i.zero,i.size,i.bytes))=some (some (.slice none 0 0),1,24):=by kernel_rfl
section
variable {P:Program} {w:World}
theorem app_freshG (base:Nat) (t ty e:TypeId) (i:TypeInfo) (z:Value) (size bytes:Nat) (ht:P.underlying t=some (.slice e)) (hi:P.info? e=some i) (hz:i.zero=some z)
  (hsize:i.size=size) (hby:i.bytes=bytes) (hzs:z.cells.size=size) (hsz:0<size)
  (v:Value) (n:Nat) (xs:List Value) (hown:w.ownsRow base e size v n xs)
  (a:Addr) (m c:Nat) (news:List Value) (hl:news.length=m*size) (hnews : ∀j u,news[j]? = some u->w.cell? (a.add j)=some u) (h1 : ∀u∈news,u.oneCell'=true)
  (hm:n+m<=10000000) (hbb:bytes<=1000) (hbase:base<=w.heap.size) :
  ∃v' w',(Builtin.append_ #[t,t] ty #[v,.slice (some a) m c]).run P w = .ok v' w'/\w'.ownsRow base e size v' (n+m) (xs++news)/\w.grownBy w' v.ownBlock/\∀k,v'.ownBlock=some k->v.ownBlock=some k∨w.heap.size<=k:=by
 have hbytes:(n+m)*bytes<=140737488355328:=by
  have:(n+m)*bytes<=10000000*1000:=Nat.mul_le_mul hm hbb
  omega
 have h63:n+m<=maxLen:=by unfold maxLen;omega
 obtain ⟨v',w',r1,r2,r3,r4⟩:=run_append_own (P:=P) w base t ty e i z size bytes ht hi hz hsize hby hzs hsz v n xs hown a m c news hl hnews h1 h63 hbytes hbase
 refine ⟨v',w',r1,r2,r3,fun k hk => ?_⟩
 have hown0:=hown
 rcases hown.2 with ⟨rfl,rfl⟩ | ⟨g,cap,cur,rfl,hbg,hg,hnc,hcm,hcs,htake⟩
 ·have hx:xs = []:=List.eq_nil_of_length_eq_zero (by have:=hown.1;simpa using this)
  subst hx
  obtain ⟨v2,w2,g1,g2,_⟩:=run_append_own (P:=P) w w.heap.size t ty e i z size bytes ht hi hz hsize hby hzs hsz (.slice none 0 0) 0 [] (World.ownsRow_nil _ _ _ _) a m c news hl hnews h1 h63 hbytes (Nat.le_refl _)
  rw [r1] at g1
  simp only [Result.ok.injEq] at g1
  obtain ⟨rfl,rfl⟩:=g1
  exact .inr (g2.lt k hk).1
 ·by_cases hroom:n+m<=cap
  ·have hfit:n*i.size+news.length<=cur.size:=by
    rw [hsize,hl,hcs,<-Nat.add_mul]
    exact Nat.mul_le_mul_right _ hroom
   have hr:=run_append_room (P:=P) w t ty e i ht hi g n cap cur hg a m c news (by rw [hsize];exact hl) hnews h1 hroom hfit
   rw [r1] at hr
   simp only [Result.ok.injEq] at hr
   obtain ⟨rfl,rfl⟩:=hr
   exact .inl hk
  ·have holds : ∀j u,xs[j]? = some u->w.cell? ((⟨g,0,none⟩:Addr).add j)=some u:=hown0.cells (g:=g) rfl
   have hr:=run_append_grow (P:=P) w t ty e i z ht hi hz ⟨g,0,none⟩ n cap xs (by rw [hsize];exact hown0.1) holds a m c news (by rw [hsize];exact hl) hnews (by omega) (by omega) (by rw [hby];exact growslice_fits (by omega) (by omega))
   rw [r1] at hr
   simp only [Result.ok.injEq] at hr
   obtain ⟨rfl,rfl⟩:=hr
   simp only [Value.ownBlock,Option.some.injEq] at hk
   exact .inr (by omega)
theorem wpList_appF {ops:Array Oper} {rest:List Oper} {o:Oper} {a:Act} {Q:Exit->Act->World->Prop} (hgd:o.guard=none) (s x:Operand) (t:TypeId)
  (ho:o.op = .call {callee:=.builtin .append,args:=#[s,x],argTypes:=#[t,t]})
  (base:Nat) (e:TypeId) (i:TypeInfo) (z:Value) (size bytes:Nat) (ht:P.underlying t=some (.slice e)) (hi:P.info? e=some i) (hz:i.zero=some z)
  (hsize:i.size=size) (hby:i.bytes=bytes) (hzs:z.cells.size=size) (hsz:0<size)
  (v:Value) (n:Nat) (xs:List Value) (hs:a.eval s=v) (hown:w.ownsRow base e size v n xs)
  (ad:Addr) (m c:Nat) (news:List Value) (hx:a.eval x = .slice (some ad) m c) (hl:news.length=m*size) (hnews : ∀j u,news[j]? = some u->w.cell? (ad.add j)=some u) (h1 : ∀u∈news,u.oneCell'=true)
  (hm:n+m<=10000000) (hbb:bytes<=1000) (hbase:base<=w.heap.size)
  (h : ∀v' w',w'.ownsRow base e size v' (n+m) (xs++news)->w.grownBy w' v.ownBlock->(∀k,v'.ownBlock=some k->v.ownBlock=some k∨w.heap.size<=k)->wpList P ops Q rest (a.put o.dst v') w'):wpList P ops Q (o::rest) a w:=by
 refine wpList_plain hgd fun K hK => ?_
 obtain ⟨v',w',hr,h2,h3,h4⟩:=app_freshG (P:=P) (w:=w) base t o.type e i z size bytes ht hi hz hsize hby hzs hsz v n xs hown ad m c news hl hnews h1 hm hbb hbase
 unfold Oper.wp execOp
 simp only [ho,resolve,invoke,builtin,Sem.run_bind,Sem.run_pure,Result.andThen_ok,List.map_toArray,List.map_cons,List.map_nil,hs,hx,hr]
 exact hK _ _ (h v' w' h2 h3 h4)
end
def encNd (n:Nd):List Value:=[.int .i64 n.kind,.int .i64 n.val,.string n.name]
def flatN (ns:List Nd):List Value:=ns.flatMap encNd
theorem flatN_len (ns:List Nd):(flatN ns).length=ns.length*3:=by
 induction ns with
 | nil=>rfl
 | cons n r ih=>
  have:flatN (n::r)=encNd n++flatN r:=rfl
  rw [this,l_a,ih]
  simp [encNd]
  omega
theorem flatN_append (a b:List Nd):flatN (a++b)=flatN a++flatN b:=by simp [flatN]
theorem flatN_at (ns:List Nd) (j:Nat) (hj:j<ns.length):(flatN ns)[j*3]? = some (.int .i64 ns[j].kind)/\(flatN ns)[j*3+1]? = some (.int .i64 ns[j].val)/\(flatN ns)[j*3+2]? = some (.string ns[j].name):=by
 induction ns generalizing j with
 | nil=>simp at hj
 | cons n r ih=>
  have e:flatN (n::r)=encNd n++flatN r:=rfl
  cases j with
  | zero=>rw [e];simp [encNd]
  | succ j=>
   have:=ih j (by simpa using hj)
   rw [e]
   have e1:(j+1)*3=j*3+3:=by omega
   have hl:(encNd n).length=3:=rfl
   refine ⟨?_,?_,?_⟩
   ·rw [e1,List.getElem?_append_right (by omega),hl];simpa using this.1
   ·rw [e1,List.getElem?_append_right (by omega),hl,show j*3+3+1-3=j*3+1 by omega];simpa using this.2.1
   ·rw [e1,List.getElem?_append_right (by omega),hl,show j*3+3+2-3=j*3+2 by omega];simpa using this.2.2
theorem flatN_split (ns:List Nd) (i:Nat) (hi:i<ns.length*3) : ∃j,j<ns.length/\(i=j*3∨i=j*3+1∨i=j*3+2):=⟨i / 3,by omega,by omega⟩
theorem addrO (g off j:Nat):(⟨g,off,none⟩:Addr).add j=⟨g,off+j,none⟩:=by
 simp [Addr.add]
 try (intro h;omega)
theorem nodes_news {w:World} {b off:Nat} {ns:List Nd} (h:NodesC w b off ns) : ∀i u,(flatN ns)[i]? = some u->w.cell? ((⟨b,off,none⟩:Addr).add i)=some u:=by
 intro i u hu
 have hi:i<ns.length*3:=by rw [<-flatN_len];exact (List.getElem?_eq_some_iff.1 hu).1
 obtain ⟨j,hj,he⟩:=flatN_split ns i hi
 obtain ⟨f0,f1,f2⟩:=flatN_at ns j hj
 obtain ⟨c0,c1,c2⟩:=h j hj
 rw [addrO]
 rcases he with rfl | rfl | rfl
 ·rw [f0] at hu;cases hu;exact c0
 ·rw [f1] at hu;cases hu;rw [<-Nat.add_assoc];exact c1
 ·rw [f2] at hu;cases hu;rw [<-Nat.add_assoc];exact c2
theorem flatN_one (ns:List Nd) : ∀u∈flatN ns,u.oneCell'=true:=by
 intro u hu
 simp only [flatN,List.mem_flatMap] at hu
 obtain ⟨n,_,hn⟩:=hu
 simp only [encNd,List.mem_cons,List.not_mem_nil,or_false] at hn
 rcases hn with rfl | rfl | rfl <;> rfl
def NRow (B:Nat) (w:World) (v:Value) (ns:List Nd):Prop:=w.ownsRow B 161 3 v ns.length (flatN ns)
theorem NRow.nodes {B:Nat} {w:World} {v:Value} {ns:List Nd} (h:NRow B w v ns):Nodes w v ns:=by
 have h0:=h
 obtain ⟨hl,h⟩:=h
 rcases h with ⟨rfl,hz⟩ | ⟨g,cap,cur,rfl,hg,hh,hc1,hc2,hc3,hc4⟩
 ·exact ⟨none,0,by rw [hz],by omega,by omega,fun h=>absurd h (by omega)⟩
 ·refine ⟨_,cap,rfl,hc1,by simp only [maxLen] at hc2;omega,fun _=>⟨g,0,rfl,fun j hj => ?_⟩⟩
  obtain ⟨f0,f1,f2⟩:=flatN_at ns j hj
  have k0:=World.ownsRow.cells h0 (g:=g) rfl _ _ f0
  have k1:=World.ownsRow.cells h0 (g:=g) rfl _ _ f1
  have k2:=World.ownsRow.cells h0 (g:=g) rfl _ _ f2
  rw [addrO] at k0 k1 k2
  exact ⟨k0,by rw [Nat.add_assoc];exact k1,by rw [Nat.add_assoc];exact k2⟩
theorem NRow.below {B:Nat} {w w':World} {v:Value} {ns:List Nd} (h:NRow B w v ns) (hb:Below w.heap.size w w'):NRow B w' v ns:=by
 obtain ⟨g1,g2⟩:=h
 refine ⟨g1,?_⟩
 rcases g2 with g2 | ⟨g,cap,cur,rfl,g3,g4,g5⟩
 ·exact .inl g2
 ·refine .inr ⟨g,cap,cur,rfl,g3,?_,g5⟩
  rw [hb.block g (Array.getElem?_eq_some_iff.1 g4).1]
  exact g4
theorem info_node:(Tryz.prog.info? 161).map (fun i=>(i.zero,i.size,i.bytes))=some (some (.agg #[.int .i64 0,.int .i64 0,.string ⟨#[]⟩]),3,32):=by kernel_rfl
theorem Nodes.grown {w w':World} {v:Value} {ns:List Nd} {row:Option Nat} (h:Nodes w v ns) (hg:w.grownBy w' row) (hne : ∀g,v.ownBlock=some g->row≠some g):Nodes w' v ns:=by
 obtain ⟨a,cap,rfl,h1,h2,h⟩:=h
 refine ⟨a,cap,rfl,h1,h2,fun h0 => ?_⟩
 obtain ⟨b,off,rfl,hc⟩:=h h0
 refine ⟨b,off,rfl,fun j hj => ?_⟩
 obtain ⟨c0,c1,c2⟩:=hc j hj
 have hlt:=World.block_lt_of_cell? _ _ c0
 have hb:=hg.block b hlt (fun e=>hne b rfl e.symm)
 exact ⟨(World.cell?_of_block (a:=⟨b,off+j*3,none⟩) hb).trans c0,(World.cell?_of_block (a:=⟨b,off+j*3+1,none⟩) hb).trans c1,(World.cell?_of_block (a:=⟨b,off+j*3+2,none⟩) hb).trans c2⟩
theorem ownG {w w':World} {B:Nat} {e:TypeId} {sz:Nat} {v:Value} {n:Nat} {xs:List Value} {row:Option Nat} (h:w.ownsRow B e sz v n xs) (hg:w.grownBy w' row) (hne : ∀g,v.ownBlock=some g->row≠some g):w'.ownsRow B e sz v n xs:=by
 obtain ⟨g1,g2⟩:=h
 refine ⟨g1,?_⟩
 rcases g2 with g2 | ⟨g,cap,cur,rfl,g3,g4,g5⟩
 ·exact .inl g2
 ·refine .inr ⟨g,cap,cur,rfl,g3,?_,g5⟩
  rw [hg.block g (Array.getElem?_eq_some_iff.1 g4).1 (fun e=>hne g rfl e.symm)]
  exact g4
theorem ownB {w w':World} {B:Nat} {e:TypeId} {sz:Nat} {v:Value} {n:Nat} {xs:List Value} (h:w.ownsRow B e sz v n xs) (hb:Below w.heap.size w w'):w'.ownsRow B e sz v n xs:=by
 obtain ⟨g1,g2⟩:=h
 refine ⟨g1,?_⟩
 rcases g2 with g2 | ⟨g,cap,cur,rfl,g3,g4,g5⟩
 ·exact .inl g2
 ·refine .inr ⟨g,cap,cur,rfl,g3,?_,g5⟩
  rw [hb.block g (Array.getElem?_eq_some_iff.1 g4).1]
  exact g4
section
variable {w:World}
theorem wpList_appN {ops:Array Oper} {rest:List Oper} {o:Oper} {a:Act} {Q:Exit->Act->World->Prop} (hgd:o.guard=none) (s x:Operand)
  (ho:o.op = .call {callee:=.builtin .append,args:=#[s,x],argTypes:=#[115,115]})
  (B:Nat) (v:Value) (ms:List Nd) (hs:a.eval s=v) (hown:NRow B w v ms) (u:Value) (ns:List Nd) (hx:a.eval x=u) (hN:Nodes w u ns)
  (hp:0<ns.length) (hb:ms.length+ns.length<=10000000) (hbase:B<=w.heap.size)
  (h : ∀v' w',NRow B w' v' (ms++ns)->w.grownBy w' v.ownBlock->(∀k,v'.ownBlock=some k->v.ownBlock=some k∨w.heap.size<=k)->wpList Tryz.prog ops Q rest (a.put o.dst v') w'):wpList Tryz.prog ops Q (o::rest) a w:=by
 obtain ⟨i0,hi,hz0,hz1,hz2⟩:=info_parts info_node
 obtain ⟨ad,cap,rfl,hc1,hc2,hc⟩:=hN
 obtain ⟨b,off,rfl,hC⟩:=hc hp
 refine wpList_appF (w:=w) hgd s x _ ho B _ i0 _ 3 32 Tryz.underlying115 hi hz0 hz1 hz2 rfl (by decide) v ms.length (flatN ms) hs hown ⟨b,off,none⟩ ns.length cap (flatN ns) hx (flatN_len ns) (nodes_news hC) (flatN_one ns) (by omega) (by omega) hbase fun v' w' h1 h2 h3=>h v' w' ?_ h2 h3
 unfold NRow
 rw [l_a,flatN_append]
 exact h1
end
def Tryz.lrev_ren:Go.Shelf.Ren:=⟨fun | 35=>168 | n=>n,fun | 22=>115 | 23=>161 | 3=>3 | 4=>4 | 0=>0 | n=>n,fun | n=>n⟩
theorem Tryz.lrev:Go.Proofs.SlLaysE0.n35 Tryz.prog Tryz.lrev_ren := {
 mixed:=by kernel_rfl
 f35:=⟨Tryz.f168.name,by decide,Tryz.func168.trans (congrArg some (by kernel_rfl))⟩
 t0:=Tryz.underlying0
 a0:=Tryz.isAgg0
 z0:=Tryz.sizeOf0
 v0:=Tryz.zeroValue0
 t3:=Tryz.underlying3
 a3:=Tryz.isAgg3
 z3:=Tryz.sizeOf3
 v3:=Tryz.zeroValue3
 t4:=Tryz.underlying4
 a4:=Tryz.isAgg4
 z4:=Tryz.sizeOf4
 v4:=Tryz.zeroValue4
 t22:=Tryz.underlying115
 a22:=Tryz.isAgg115
 z22:=Tryz.sizeOf115
 v22:=Tryz.zeroValue115}
def NFree (B:Nat) (w:World) (v:Value) (ns:List Nd):Prop:=∃g cap,v = .slice (some ⟨g,0,none⟩) ns.length cap/\ns.length<=cap/\cap<=9223372036854775807/\B<=g/\g<w.heap.size/\NodesC w g 0 ns/\∀j,j<ns.length*3->w.frozen? ⟨g,j,none⟩=false
theorem NFree.nodes {B:Nat} {w:World} {v:Value} {ns:List Nd} (h:NFree B w v ns):Nodes w v ns:=by
 obtain ⟨g,cap,rfl,h1,h2,_,_,h3,_⟩:=h
 exact ⟨_,cap,rfl,h1,h2,fun _=>⟨g,0,rfl,h3⟩⟩
theorem holds_nodes [Inhabited Nd] {w:World} {g:Nat} {ns:List Nd} (h:NodesC w g 0 ns) (hf : ∀j,j<ns.length*3->w.frozen? ⟨g,j,none⟩=false):HoldsK encNd 3 w g 0 ns.toArray:=by
 intro j hj
 rw [size_flatK] at hj
 simp only [List.size_toArray] at hj
 refine ⟨?_,by rw [Nat.zero_add];exact hf j hj⟩
 rw [get_flatK _ _ _ _ (by simpa using hj),id]
 have hq:j / 3<ns.length:=by omega
 have e:ns.toArray[j / 3]! = ns[j / 3]:=by simp [hq]
 rw [e]
 obtain ⟨h0,h1,h2⟩:=h (j / 3) hq
 have hm:j % 3=0∨j % 3=1∨j % 3=2:=by omega
 rcases hm with hm | hm | hm
 ·rw [hm,show 0+j=0+j / 3*3 by omega,h0];simp [encNd]
 ·rw [hm,show 0+j=0+j / 3*3+1 by omega,h1];simp [encNd]
 ·rw [hm,show 0+j=0+j / 3*3+2 by omega,h2];simp [encNd]
theorem nodes_holds [Inhabited Nd] {w:World} {g:Nat} {ns:List Nd} (h:HoldsK encNd 3 w g 0 ns.toArray):NodesC w g 0 ns/\∀j,j<ns.length*3->w.frozen? ⟨g,j,none⟩=false:=by
 refine ⟨fun j hj => ?_,fun j hj => ?_⟩
 ·have e:ns.toArray[j]! = ns[j]:=by simp [hj]
  refine ⟨?_,?_,?_⟩
  ·have:=(h.cell (i:=j) (c:=0) (by simpa using hj) (by omega)).1
   rw [e] at this;simpa [encNd] using this
  ·have:=(h.cell (i:=j) (c:=1) (by simpa using hj) (by omega)).1
   rw [e] at this;simpa [encNd] using this
  ·have:=(h.cell (i:=j) (c:=2) (by simpa using hj) (by omega)).1
   rw [e] at this;simpa [encNd] using this
 ·have:=(h j (by rw [size_flatK];simpa using hj)).2
  rwa [Nat.zero_add] at this
theorem encNd_len (n:Nd):(encNd n).length=3:=rfl
theorem encNd_one (n:Nd) : ∀v∈encNd n,v.oneCell'=true:=by
 intro v hv
 simp only [encNd,List.mem_cons,List.not_mem_nil,or_false] at hv
 rcases hv with rfl | rfl | rfl <;> rfl
theorem rev_any (B:Nat) (v:Value) (ns:List Nd) (w:World) (hl:ns.length<=1048576) (h:NFree B w v ns) :
  Calls Tryz.prog 168 #[v] w fun e w'=>e = .returned (.tuple #[])/\NFree B w' v ns.reverse/\∀W b,b<=B->Below b W w->Below b W w':=by
 haveI : Inhabited Nd := ⟨⟨1, 0, ⟨#[]⟩⟩⟩
 obtain ⟨g,cap,rfl,h1,h2,h3,h4,h5,h6⟩:=h
 have hH:=holds_nodes h5 h6
 have:=AnyQ.slices_Reverse Tryz.lrev 3 Tryz.isAgg161 Tryz.sizeOf161 encNd encNd_len encNd_one g 0 cap ns.toArray w hH (by simp;omega)
 simp only [List.size_toArray] at this
 refine this.mono ?_
 rintro e w' ⟨rfl,n,rfl⟩
 refine ⟨rfl,⟨g,cap,by simp,by simpa using h1,h2,h3,?_,?_⟩,fun W b hb hW=>Lib.below_putRow hW (by omega)⟩
 ·simpa [putRowK,Sort.ahead] using h4
 ·have hh:=holdsK_putRowK encNd 3 (Sort.ahead w n) g 0 ns.toArray ns.toArray.reverse (holdsK_ahead encNd 3 w n g 0 ns.toArray hH) (by simp)
  have e:ns.toArray.reverse=ns.reverse.toArray:=by simp
  rw [e] at hh ⊢
  exact nodes_holds hh
def lastKind (e:List Nd):Int:=match e[e.length-1]? with | some n=>n.kind | none=>0
def stmtB (s:St):Bool:=
 decide (1<=s.kind/\s.kind<=8) && (if s.kind<=3 then nameB s.name else s.name.toList == []) && oneB s.e && (if s.kind=3 then oneB s.f else s.f.length == 0) && (decide (s.kind≠8) || lastKind s.e == 4) && (decide (s.kind=4∨s.kind=5) || s.thn == 0) && (decide (s.kind=4) || s.els == 0)
theorem oneB_pos {l:List Nd} (h:oneB l=true):0<l.length:=by
 cases l with
 | nil=>simp [oneB,wholeTo] at h
 | cons n r=>simp
end Go.Proofs.YtmddmgpijpjpbaaGreatDoor
