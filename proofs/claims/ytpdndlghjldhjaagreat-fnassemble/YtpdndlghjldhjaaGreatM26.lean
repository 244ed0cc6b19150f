import Derived.Test.YtpdndlghjldhjaaGreatM23
import Derived.OwnWalk
import Derived.Laws.OwnMore
import Derived.Laws.AppendOwnNone
import Derived.WalkKit
import Derived.WalkSpells
import Derived.BigQuiet
namespace Go.Proofs.YtpdndlghjldhjaaGreat
set_option linter.unusedVariables false
set_option linter.unusedSimpArgs false
set_option maxRecDepth 100000
set_option maxHeartbeats 16000000
section
open Go.RowKit
def encNd (n:Nd):List Value:=[.int .i64 n.kind,.int .i64 n.val,.string n.name]
def flatN (ns:List Nd):List Value:=ns.flatMap encNd
theorem flatN_len (ns:List Nd):(flatN ns).length=ns.length*3:=by
 induction ns with
 | nil=>rfl
 | cons n r ih=>
  have:flatN (n::r)=encNd n++flatN r:=rfl
  rw [this,l_a,ih]
  simp [encNd]
  omega
theorem flatN_append (a b:List Nd):flatN (a++b)=flatN a++flatN b:=by simp [flatN]
theorem flatN_at (ns:List Nd) (j:Nat) (hj:j<ns.length):(flatN ns)[j*3]? = some (.int .i64 ns[j].kind)/\(flatN ns)[j*3+1]? = some (.int .i64 ns[j].val)/\(flatN ns)[j*3+2]? = some (.string ns[j].name):=by
 induction ns generalizing j with
 | nil=>simp at hj
 | cons n r ih=>
  have e:flatN (n::r)=encNd n++flatN r:=rfl
  cases j with
  | zero=>rw [e];simp [encNd]
  | succ j=>
   have:=ih j (by simpa using hj)
   rw [e]
   have e1:(j+1)*3=j*3+3:=by omega
   have hl:(encNd n).length=3:=rfl
   refine ⟨?_,?_,?_⟩
   ·rw [e1,List.getElem?_append_right (by omega),hl];simpa using this.1
   ·rw [e1,List.getElem?_append_right (by omega),hl,show j*3+3+1-3=j*3+1 by omega];simpa using this.2.1
   ·rw [e1,List.getElem?_append_right (by omega),hl,show j*3+3+2-3=j*3+2 by omega];simpa using this.2.2
theorem flatN_split (ns:List Nd) (i:Nat) (hi:i<ns.length*3) : ∃j,j<ns.length/\(i=j*3∨i=j*3+1∨i=j*3+2):=⟨i / 3,by omega,by omega⟩
theorem addrO (g off j:Nat):(⟨g,off,none⟩:Addr).add j=⟨g,off+j,none⟩:=by
 simp [Addr.add]
 try (intro h;omega)
theorem nodes_news {w:World} {b off:Nat} {ns:List Nd} (h:NodesC w b off ns) : ∀i u,(flatN ns)[i]? = some u->w.cell? ((⟨b,off,none⟩:Addr).add i)=some u:=by
 intro i u hu
 have hi:i<ns.length*3:=by rw [<-flatN_len];exact (List.getElem?_eq_some_iff.1 hu).1
 obtain ⟨j,hj,he⟩:=flatN_split ns i hi
 obtain ⟨f0,f1,f2⟩:=flatN_at ns j hj
 obtain ⟨c0,c1,c2⟩:=h j hj
 rw [addrO]
 rcases he with rfl | rfl | rfl
 ·rw [f0] at hu;cases hu;exact c0
 ·rw [f1] at hu;cases hu;rw [<-Nat.add_assoc];exact c1
 ·rw [f2] at hu;cases hu;rw [<-Nat.add_assoc];exact c2
theorem flatN_one (ns:List Nd) : ∀u∈flatN ns,u.oneCell'=true:=by
 intro u hu
 simp only [flatN,List.mem_flatMap] at hu
 obtain ⟨n,_,hn⟩:=hu
 simp only [encNd,List.mem_cons,List.not_mem_nil,or_false] at hn
 rcases hn with rfl | rfl | rfl <;> rfl
def NRow (B:Nat) (w:World) (v:Value) (ns:List Nd):Prop:=w.ownsRow B 120 3 v ns.length (flatN ns)
theorem NRow.nodes {B:Nat} {w:World} {v:Value} {ns:List Nd} (h:NRow B w v ns):Nodes w v ns:=by
 have h0:=h
 obtain ⟨hl,h⟩:=h
 rcases h with ⟨rfl,hz⟩ | ⟨g,cap,cur,rfl,hg,hh,hc1,hc2,hc3,hc4⟩
 ·exact ⟨none,0,by rw [hz],by omega,by omega,fun h=>absurd h (by omega)⟩
 ·refine ⟨_,cap,rfl,hc1,by simp only [maxLen] at hc2;omega,fun _=>⟨g,0,rfl,fun j hj => ?_⟩⟩
  obtain ⟨f0,f1,f2⟩:=flatN_at ns j hj
  have k0:=World.ownsRow.cells h0 (g:=g) rfl _ _ f0
  have k1:=World.ownsRow.cells h0 (g:=g) rfl _ _ f1
  have k2:=World.ownsRow.cells h0 (g:=g) rfl _ _ f2
  rw [addrO] at k0 k1 k2
  exact ⟨k0,by rw [Nat.add_assoc];exact k1,by rw [Nat.add_assoc];exact k2⟩
theorem NRow.below {B:Nat} {w w':World} {v:Value} {ns:List Nd} (h:NRow B w v ns) (hb:Below w.heap.size w w'):NRow B w' v ns:=by
 obtain ⟨g1,g2⟩:=h
 refine ⟨g1,?_⟩
 rcases g2 with g2 | ⟨g,cap,cur,rfl,g3,g4,g5⟩
 ·exact .inl g2
 ·refine .inr ⟨g,cap,cur,rfl,g3,?_,g5⟩
  rw [hb.block g (Array.getElem?_eq_some_iff.1 g4).1]
  exact g4
theorem info_node:(Tryz.prog.info? 120).map (fun i=>(i.zero,i.size,i.bytes))=some (some (.agg #[.int .i64 0,.int .i64 0,.string ⟨#[]⟩]),3,32):=by kernel_rfl
theorem Nodes.grown {w w':World} {v:Value} {ns:List Nd} {row:Option Nat} (h:Nodes w v ns) (hg:w.grownBy w' row) (hne : ∀g,v.ownBlock=some g->row≠some g):Nodes w' v ns:=by
 obtain ⟨a,cap,rfl,h1,h2,h⟩:=h
 refine ⟨a,cap,rfl,h1,h2,fun h0 => ?_⟩
 obtain ⟨b,off,rfl,hc⟩:=h h0
 refine ⟨b,off,rfl,fun j hj => ?_⟩
 obtain ⟨c0,c1,c2⟩:=hc j hj
 have hlt:=World.block_lt_of_cell? _ _ c0
 have hb:=hg.block b hlt (fun e=>hne b rfl e.symm)
 exact ⟨(World.cell?_of_block (a:=⟨b,off+j*3,none⟩) hb).trans c0,(World.cell?_of_block (a:=⟨b,off+j*3+1,none⟩) hb).trans c1,(World.cell?_of_block (a:=⟨b,off+j*3+2,none⟩) hb).trans c2⟩
theorem ownG {w w':World} {B:Nat} {e:TypeId} {sz:Nat} {v:Value} {n:Nat} {xs:List Value} {row:Option Nat} (h:w.ownsRow B e sz v n xs) (hg:w.grownBy w' row) (hne : ∀g,v.ownBlock=some g->row≠some g):w'.ownsRow B e sz v n xs:=by
 obtain ⟨g1,g2⟩:=h
 refine ⟨g1,?_⟩
 rcases g2 with g2 | ⟨g,cap,cur,rfl,g3,g4,g5⟩
 ·exact .inl g2
 ·refine .inr ⟨g,cap,cur,rfl,g3,?_,g5⟩
  rw [hg.block g (Array.getElem?_eq_some_iff.1 g4).1 (fun e=>hne g rfl e.symm)]
  exact g4
theorem ownB {w w':World} {B:Nat} {e:TypeId} {sz:Nat} {v:Value} {n:Nat} {xs:List Value} (h:w.ownsRow B e sz v n xs) (hb:Below w.heap.size w w'):w'.ownsRow B e sz v n xs:=by
 obtain ⟨g1,g2⟩:=h
 refine ⟨g1,?_⟩
 rcases g2 with g2 | ⟨g,cap,cur,rfl,g3,g4,g5⟩
 ·exact .inl g2
 ·refine .inr ⟨g,cap,cur,rfl,g3,?_,g5⟩
  rw [hb.block g (Array.getElem?_eq_some_iff.1 g4).1]
  exact g4
section
variable {w:World}
theorem wpList_appN {ops:Array Oper} {rest:List Oper} {o:Oper} {a:Act} {Q:Exit->Act->World->Prop} (hgd:o.guard=none) (s x:Operand)
  (ho:o.op = .call {callee:=.builtin .append,args:=#[s,x],argTypes:=#[91,91]})
  (B:Nat) (v:Value) (ms:List Nd) (hs:a.eval s=v) (hown:NRow B w v ms) (u:Value) (ns:List Nd) (hx:a.eval x=u) (hN:Nodes w u ns)
  (hp:0<ns.length) (hb:ms.length+ns.length<=10000000) (hbase:B<=w.heap.size)
  (h : ∀v' w',NRow B w' v' (ms++ns)->w.grownBy w' v.ownBlock->(∀k,v'.ownBlock=some k->v.ownBlock=some k∨w.heap.size<=k)->wpList Tryz.prog ops Q rest (a.put o.dst v') w'):wpList Tryz.prog ops Q (o::rest) a w:=by
 obtain ⟨i0,hi,hz0,hz1,hz2⟩:=info_parts info_node
 obtain ⟨ad,cap,rfl,hc1,hc2,hc⟩:=hN
 obtain ⟨b,off,rfl,hC⟩:=hc hp
 refine wpList_appF (w:=w) hgd s x _ ho B _ i0 _ 3 32 Tryz.underlying91 hi hz0 hz1 hz2 rfl (by decide) v ms.length (flatN ms) hs hown ⟨b,off,none⟩ ns.length cap (flatN ns) hx (flatN_len ns) (nodes_news hC) (flatN_one ns) (by omega) (by omega) hbase fun v' w' h1 h2 h3=>h v' w' ?_ h2 h3
 unfold NRow
 rw [l_a,flatN_append]
 exact h1
end
end
section
open Go.RowKit
end
section
open Go.RowKit
theorem info_item:(Tryz.prog.info? 31).map (fun i=>(i.zero,i.size,i.bytes))=some (some (.agg #[.int .i64 0,.int .i64 0,.int .i64 0,.int .i64 0,.int .i64 0,.int .i64 0,.int .i64 0]),7,56):=by kernel_rfl
theorem cellsI_one (x:It) : ∀u∈cellsI x,u.oneCell'=true:=by
 intro u hu
 simp only [cellsI,List.mem_cons,List.not_mem_nil,or_false] at hu
 rcases hu with rfl | rfl | rfl | rfl | rfl | rfl | rfl <;> rfl
theorem flatI_single (x:It):flatI [x]=cellsI x:=by simp [flatI]
theorem item_cells (w:World) (x:It) (t:TypeId) : ∀j u,(flatI [x])[j]? = some u->(w.alloc (.cells #[.int .i64 x.kind,.int .i64 x.ins.op,.int .i64 x.ins.rd,.int .i64 x.ins.s1,.int .i64 x.ins.s2,.int .i64 x.ins.im,.int .i64 x.label] t)).cell? ((⟨w.heap.size,0,none⟩:Addr).add j)=some u:=by
 intro j u hj
 rw [flatI_single] at hj
 have hl:j<7:=by
  have:=(List.getElem?_eq_some_iff.1 hj).1
  simpa [cellsI] using this
 have e:(⟨w.heap.size,0,none⟩:Addr).add j=⟨w.heap.size,j,none⟩:=by simp only [Addr.add];split <;> simp_all
 rw [e]
 have h7:j=0∨j=1∨j=2∨j=3∨j=4∨j=5∨j=6:=by omega
 rcases h7 with rfl | rfl | rfl | rfl | rfl | rfl | rfl <;> (simp [cellsI] at hj;rw [<-hj];simp)
theorem wpList_appT {w:World} {ops:Array Oper} {rest:List Oper} {o:Oper} {a:Act} {Q:Exit->Act->World->Prop} (hgd:o.guard=none) (s x:Operand)
  (ho:o.op = .call {callee:=.builtin .append,args:=#[s,x],argTypes:=#[23,23]})
  (B:Nat) (v:Value) (its:List It) (it:It) (hs:a.eval s=v) (hown:w.ownsRow B 31 7 v its.length (flatI its)) (b c:Nat) (hx:a.eval x = .slice (some ⟨b,0,none⟩) 1 c) (hz : ∀j u,(flatI [it])[j]? = some u->w.cell? ((⟨b,0,none⟩:Addr).add j)=some u)
  (hm:its.length<=9000000) (hbase:B<=w.heap.size)
  (h : ∀v' w',w'.ownsRow B 31 7 v' (its.length + [it].length) (flatI its++flatI [it])->w.grownBy w' v.ownBlock->(∀k,v'.ownBlock=some k->v.ownBlock=some k∨w.heap.size<=k)->wpList Tryz.prog ops Q rest (a.put o.dst v') w'):wpList Tryz.prog ops Q (o::rest) a w:=by
 obtain ⟨i1,hj,hy0,hy1,hy2⟩:=info_parts info_item
 exact wpList_appF hgd s x _ ho B 31 i1 _ 7 56 Tryz.underlying23 hj hy0 hy1 hy2 rfl (by decide) v its.length (flatI its) hs hown ⟨b,0,none⟩ 1 c (flatI [it]) hx (flatI_len [it]) hz (fun u hu=>cellsI_one it u (by rw [flatI_single] at hu;exact hu)) (by omega) (by decide) hbase h
theorem putG_any (P:Nat) (its:List It) (c:Nat->Value) (op rd s1 s2 im:Int) (w:World) (hO:Em 31 6 7 P w its c) (hl:its.length<=9000000) :
  Calls Tryz.prog 27 #[.pointer (some ⟨P,0,none⟩),.int .i64 op,.int .i64 rd,.int .i64 s1,.int .i64 s2,.int .i64 im] w fun e w'=>(∃u,e = .returned u)/\Em 31 6 7 P w' (its++[insI op rd s1 s2 im]) c/\Wq 6 P w w':=by
 have HO:=hide hO
 obtain ⟨hlt,hfz,⟨v,hv,hrow⟩,hoth⟩:=hO
 obtain ⟨a0,c0,hvs⟩ : ∃a0 c0,v = .slice a0 its.length c0:=by
  rcases hrow.2 with ⟨rfl,hz⟩ | ⟨g,cap,cur,rfl,_⟩
  ·exact ⟨none,0,by rw [hz]⟩
  ·exact ⟨_,cap,rfl⟩
 subst hvs
 have HO1:Hid (Em 31 6 7 P (w.alloc (.cells #[.int .i64 1,.int .i64 op,.int .i64 rd,.int .i64 s1,.int .i64 s2,.int .i64 im,.int .i64 0] 31)) its c):=HO.out.below (bel_a _ _)
 have hv1:(w.alloc (.cells #[.int .i64 1,.int .i64 op,.int .i64 rd,.int .i64 s1,.int .i64 s2,.int .i64 im,.int .i64 0] 31)).cell? ⟨P,6,none⟩=some (.slice a0 its.length c0):=by rw [World.cell?_alloc_lt _ _ ⟨P,6,none⟩ hlt];exact hv
 obtain ⟨v1,hv1',hrow1⟩:=HO1.out.row
 rw [hv1] at hv1'
 obtain rfl:=Option.some.inj hv1'
 have HR1:=hide hrow1
 have HV1:=hide hv1
 have HW1:Hid (Wq 6 P w (w.alloc (.cells #[.int .i64 1,.int .i64 op,.int .i64 rd,.int .i64 s1,.int .i64 s2,.int .i64 im,.int .i64 0] 31))):=Wq.below hlt (bel_a _ _)
 have hzz:=item_cells w (insI op rd s1 s2 im) 31
 have HZZ:=hide hzz
 clear hrow hoth hfz hrow1 hv1 hzz
 go_enter Tryz.func27,Tryz.ntmps27
 go_wp2_with (at_builtin;refine wpList_appT rfl _ _ rfl (P+1) _ its (insI op rd s1 s2 im) rfl HR1.out w.heap.size 1 rfl HZZ.out hl (by simp;omega) ?_)
 intro v2 w2 hown2 hg2 hf2
 obtain ⟨f2,c2,hO2,hW2⟩:=em_step HO1.out HV1.out hown2 hg2 (fun k hk=>by rw [World.size_alloc];exact hf2 k hk)
 obtain ⟨va,vn,vc,rfl⟩ : ∃va vn vc,v2 = .slice va vn vc:=by
  rcases hown2.2 with ⟨rfl,_⟩ | ⟨g,cap,cur,rfl,_⟩
  ·exact ⟨_,_,_,rfl⟩
  ·exact ⟨_,_,_,rfl⟩
 have HR:Hid (Em 31 6 7 P (w2.setCell ⟨P,6,none⟩ (.slice va vn vc)) (its++[insI op rd s1 s2 im]) c/\Wq 6 P w (w2.setCell ⟨P,6,none⟩ (.slice va vn vc))):=⟨hO2,HW1.out.trans hW2⟩
 clear hown2 hg2 hf2 hO2 hW2
 go_wp2_with fail
 exact bodyPost_end (v:=.tuple #[]) (by simp [results,Tryz.results27,go_sem]) rfl ⟨⟨_,rfl⟩,HR.out⟩
end
section
open Go.RowKit
end
section
open Go.RowKit
theorem markG_any (P:Nat) (its:List It) (c:Nat->Value) (kd lb:Int) (w:World) (hO:Em 31 6 7 P w its c) (hl:its.length<=9000000) :
  Calls Tryz.prog 25 #[.pointer (some ⟨P,0,none⟩),.int .i64 kd,.int .i64 lb] w fun e w'=>(∃u,e = .returned u)/\Em 31 6 7 P w' (its++[markI kd lb]) c/\Wq 6 P w w':=by
 have HO:=hide hO
 obtain ⟨hlt,hfz,⟨v,hv,hrow⟩,hoth⟩:=hO
 obtain ⟨a0,c0,hvs⟩ : ∃a0 c0,v = .slice a0 its.length c0:=by
  rcases hrow.2 with ⟨rfl,hz⟩ | ⟨g,cap,cur,rfl,_⟩
  ·exact ⟨none,0,by rw [hz]⟩
  ·exact ⟨_,cap,rfl⟩
 subst hvs
 have HO1:Hid (Em 31 6 7 P (w.alloc (.cells #[.int .i64 kd,.int .i64 0,.int .i64 0,.int .i64 0,.int .i64 0,.int .i64 0,.int .i64 lb] 31)) its c):=HO.out.below (bel_a _ _)
 have hv1:(w.alloc (.cells #[.int .i64 kd,.int .i64 0,.int .i64 0,.int .i64 0,.int .i64 0,.int .i64 0,.int .i64 lb] 31)).cell? ⟨P,6,none⟩=some (.slice a0 its.length c0):=by rw [World.cell?_alloc_lt _ _ ⟨P,6,none⟩ hlt];exact hv
 obtain ⟨v1,hv1',hrow1⟩:=HO1.out.row
 rw [hv1] at hv1'
 obtain rfl:=Option.some.inj hv1'
 have HR1:=hide hrow1
 have HV1:=hide hv1
 have HW1:Hid (Wq 6 P w (w.alloc (.cells #[.int .i64 kd,.int .i64 0,.int .i64 0,.int .i64 0,.int .i64 0,.int .i64 0,.int .i64 lb] 31))):=Wq.below hlt (bel_a _ _)
 have hzz:=item_cells w (markI kd lb) 31
 have HZZ:=hide hzz
 clear hrow hoth hfz hrow1 hv1 hzz
 go_enter Tryz.func25,Tryz.ntmps25
 go_wp2_with (at_builtin;refine wpList_appT rfl _ _ rfl (P+1) _ its (markI kd lb) rfl HR1.out w.heap.size 1 rfl HZZ.out hl (by simp;omega) ?_)
 intro v2 w2 hown2 hg2 hf2
 obtain ⟨f2,c2,hO2,hW2⟩:=em_step HO1.out HV1.out hown2 hg2 (fun k hk=>by rw [World.size_alloc];exact hf2 k hk)
 obtain ⟨va,vn,vc,rfl⟩ : ∃va vn vc,v2 = .slice va vn vc:=by
  rcases hown2.2 with ⟨rfl,_⟩ | ⟨g,cap,cur,rfl,_⟩
  ·exact ⟨_,_,_,rfl⟩
  ·exact ⟨_,_,_,rfl⟩
 have HR:Hid (Em 31 6 7 P (w2.setCell ⟨P,6,none⟩ (.slice va vn vc)) (its++[markI kd lb]) c/\Wq 6 P w (w2.setCell ⟨P,6,none⟩ (.slice va vn vc))):=⟨hO2,HW1.out.trans hW2⟩
 clear hown2 hg2 hf2 hO2 hW2
 go_wp2_with fail
 exact bodyPost_end (v:=.tuple #[]) (by simp [results,Tryz.results25,go_sem]) rfl ⟨⟨_,rfl⟩,HR.out⟩
theorem branG_any (P:Nat) (its:List It) (c:Nat->Value) (op rg lb:Int) (w:World) (hO:Em 31 6 7 P w its c) (hl:its.length<=9000000) :
  Calls Tryz.prog 85 #[.pointer (some ⟨P,0,none⟩),.int .i64 op,.int .i64 rg,.int .i64 lb] w fun e w'=>(∃u,e = .returned u)/\Em 31 6 7 P w' (its++[branI op rg lb]) c/\Wq 6 P w w':=by
 have HO:=hide hO
 obtain ⟨hlt,hfz,⟨v,hv,hrow⟩,hoth⟩:=hO
 obtain ⟨a0,c0,hvs⟩ : ∃a0 c0,v = .slice a0 its.length c0:=by
  rcases hrow.2 with ⟨rfl,hz⟩ | ⟨g,cap,cur,rfl,_⟩
  ·exact ⟨none,0,by rw [hz]⟩
  ·exact ⟨_,cap,rfl⟩
 subst hvs
 have HO1:Hid (Em 31 6 7 P (w.alloc (.cells #[.int .i64 3,.int .i64 op,.int .i64 0,.int .i64 rg,.int .i64 0,.int .i64 0,.int .i64 lb] 31)) its c):=HO.out.below (bel_a _ _)
 have hv1:(w.alloc (.cells #[.int .i64 3,.int .i64 op,.int .i64 0,.int .i64 rg,.int .i64 0,.int .i64 0,.int .i64 lb] 31)).cell? ⟨P,6,none⟩=some (.slice a0 its.length c0):=by rw [World.cell?_alloc_lt _ _ ⟨P,6,none⟩ hlt];exact hv
 obtain ⟨v1,hv1',hrow1⟩:=HO1.out.row
 rw [hv1] at hv1'
 obtain rfl:=Option.some.inj hv1'
 have HR1:=hide hrow1
 have HV1:=hide hv1
 have HW1:Hid (Wq 6 P w (w.alloc (.cells #[.int .i64 3,.int .i64 op,.int .i64 0,.int .i64 rg,.int .i64 0,.int .i64 0,.int .i64 lb] 31))):=Wq.below hlt (bel_a _ _)
 have hzz:=item_cells w (branI op rg lb) 31
 have HZZ:=hide hzz
 clear hrow hoth hfz hrow1 hv1 hzz
 go_enter Tryz.func85,Tryz.ntmps85
 go_wp2_with (at_builtin;refine wpList_appT rfl _ _ rfl (P+1) _ its (branI op rg lb) rfl HR1.out w.heap.size 1 rfl HZZ.out hl (by simp;omega) ?_)
 intro v2 w2 hown2 hg2 hf2
 obtain ⟨f2,c2,hO2,hW2⟩:=em_step HO1.out HV1.out hown2 hg2 (fun k hk=>by rw [World.size_alloc];exact hf2 k hk)
 obtain ⟨va,vn,vc,rfl⟩ : ∃va vn vc,v2 = .slice va vn vc:=by
  rcases hown2.2 with ⟨rfl,_⟩ | ⟨g,cap,cur,rfl,_⟩
  ·exact ⟨_,_,_,rfl⟩
  ·exact ⟨_,_,_,rfl⟩
 have HR:Hid (Em 31 6 7 P (w2.setCell ⟨P,6,none⟩ (.slice va vn vc)) (its++[branI op rg lb]) c/\Wq 6 P w (w2.setCell ⟨P,6,none⟩ (.slice va vn vc))):=⟨hO2,HW1.out.trans hW2⟩
 clear hown2 hg2 hf2 hO2 hW2
 go_wp2_with fail
 exact bodyPost_end (v:=.tuple #[]) (by simp [results,Tryz.results85,go_sem]) rfl ⟨⟨_,rfl⟩,HR.out⟩
theorem labelG_any (P:Nat) (its:List It) (c:Nat->Value) (l:Int) (w:World) (hO:Em 31 6 7 P w its c) (hc:c 5 = .int .i64 l) (hl:0<=l/\l<=1000000000) :
  Calls Tryz.prog 53 #[.pointer (some ⟨P,0,none⟩)] w fun e w'=>e = .returned (.int .i64 l)/\Em 31 6 7 P w' its (fun j=>if j=5 then .int .i64 (l+1) else c j)/\Wq 6 P w w':=by
 have h5:=hO.oth 5 (by decide) (by decide)
 rw [hc] at h5
 have hf:=hO.fz 5
 have HR:Hid (Em 31 6 7 P (w.setCell ⟨P,5,none⟩ (.int .i64 (l+1))) its (fun j=>if j=5 then .int .i64 (l+1) else c j)/\Wq 6 P w (w.setCell ⟨P,5,none⟩ (.int .i64 (l+1)))):=em_set hO 5 (by decide) (by decide) _
 have h5':(w.setCell ⟨P,5,none⟩ (.int .i64 (l+1))).cell? ⟨P,5,none⟩=some (.int .i64 (l+1)):=World.cell?_setCell_same _ _ _ h5
 have k1:IntKind.i64.wrap (l+1)=l+1:=by simp [IntKind.wrap,IntKind.bits,IntKind.signed];omega
 have k2:IntKind.i64.wrap (l+1-1)=l:=by simp [IntKind.wrap,IntKind.bits,IntKind.signed];omega
 clear hO hc
 go_enter Tryz.func53,Tryz.ntmps53
 go_wp2_with fail
 go_ret
 exact ⟨by simp,HR.out⟩
end
section
open Go.RowKit
def cS (vg vf vn:Value) (fr en l:Int):Nat->Value:=fun j=>if j=0 then vg else if j=1 then vf else if j=2 then vn else if j=3 then .int .i64 fr else if j=4 then .int .i64 en else .int .i64 l
def Es (P:Nat) (w:World) (its:List It) (vg vf vn:Value) (fr en l:Int):Prop:=Em 31 6 7 P w its (cS vg vf vn fr en l)
theorem Em.congr {ti q n P:Nat} {w:World} {its:List It} {c c':Nat->Value} (h:Em ti q n P w its c) (hc : ∀o,o<n->o≠q->c o=c' o):Em ti q n P w its c':=⟨h.lt,h.fz,h.row,fun o ho hq=>(h.oth o ho hq).trans (by rw [hc o ho hq])⟩
theorem labG (P:Nat) (its:List It) (vg vf vn:Value) (fr en l:Int) (w:World) (hO:Es P w its vg vf vn fr en l) (hl:0<=l/\l<=1000000000) :
  Calls Tryz.prog 53 #[.pointer (some ⟨P,0,none⟩)] w fun e w'=>e = .returned (.int .i64 l)/\Es P w' its vg vf vn fr en (l+1)/\Wq 6 P w w':=by
 refine (labelG_any P its _ l w hO rfl hl).mono ?_
 rintro e w' ⟨rfl,h1,h2⟩
 refine ⟨rfl,h1.congr fun o ho hq => ?_,h2⟩
 have:o=0∨o=1∨o=2∨o=3∨o=4∨o=5:=by omega
 rcases this with rfl | rfl | rfl | rfl | rfl | rfl <;> rfl
theorem regI_lt {d sp:Int} (h0:0<=d) (h:d<5):d=0∨d=1∨d=2∨d=3∨d=4:=by omega
theorem regI_ge {d sp:Int} (h:5<=d):regI d sp=sp:=by
 unfold regI
 rw [if_neg (by omega),if_neg (by omega),if_neg (by omega),if_neg (by omega),if_neg (by omega)]
theorem regG_any (d sp:Int) (w:World) (hd:0<=d):Calls Tryz.prog 93 #[.int .i64 d,.int .i64 sp] w fun e w'=>e = .returned (.int .i64 (regI d sp))/\Below w.heap.size w w':=by
 have hA : ∀o,Bl w (w.alloc o):=fun o=>(Below.refl _ _).alloc (Nat.le_refl _) o
 by_cases h5:d<5
 ·rcases regI_lt (sp:=sp) hd h5 with rfl | rfl | rfl | rfl | rfl
  ·go_enter Tryz.func93,Tryz.ntmps93
   go_wp2_with fail
   go_ret
   exact ⟨rfl,hA _⟩
  ·go_enter Tryz.func93,Tryz.ntmps93
   go_wp2_with fail
   go_ret
   exact ⟨rfl,hA _⟩
  ·go_enter Tryz.func93,Tryz.ntmps93
   go_wp2_with fail
   go_ret
   exact ⟨rfl,hA _⟩
  ·go_enter Tryz.func93,Tryz.ntmps93
   go_wp2_with fail
   go_ret
   exact ⟨rfl,hA _⟩
  ·go_enter Tryz.func93,Tryz.ntmps93
   go_wp2_with fail
   go_ret
   exact ⟨rfl,hA _⟩
 ·have HR:Hid (regI d sp=sp):=regI_ge (by omega)
  clear hA
  go_enter Tryz.func93,Tryz.ntmps93
  go_wp2_with fail
  go_ret
  exact ⟨by rw [HR.out];rfl,Below.refl _ _⟩
theorem wordG_any (P:Nat) (its:List It) (vg vf:Value) (an:Option Addr) (cn:Nat) (E:GEnv) (fr en l d:Int) (w:World) (hO:Es P w its vg vf (.slice an E.n cn) fr en l) (hn:E.n<=1000000) (hd:0<=d) (hd1:d<=1000000) :
  Calls Tryz.prog 106 #[.pointer (some ⟨P,0,none⟩),.int .i64 d] w fun e w'=>e = .returned (.int .i64 (wordI E d))/\w'=w:=by
 have h2:w.cell? ⟨P,2,none⟩=some (.slice an E.n cn):=hO.oth 2 (by decide) (by decide)
 have k1:IntKind.i64.wrap ((E.n:Int)+d)=(E.n:Int)+d:=by simp [IntKind.wrap,IntKind.bits,IntKind.signed];omega
 have k2:IntKind.i64.wrap (4*((E.n:Int)+d))=4*((E.n:Int)+d):=by simp [IntKind.wrap,IntKind.bits,IntKind.signed];omega
 have HW:Hid (wordI E d=4*((E.n:Int)+d)):=rfl
 clear hO
 generalize E.n=N at h2 k1 k2 HW hn
 go_enter Tryz.func106,Tryz.ntmps106
 go_wp2_with fail
 go_ret
 exact ⟨by rw [HW.out];rfl,rfl⟩
def Wrote (P:Nat) (w:World) (its new:List It) (vg vf vn:Value) (fr en l:Int) (w':World):Prop:=Es P w' (its++new) vg vf vn fr en l/\Wq 6 P w w'
theorem readG_any (P:Nat) (its:List It) (vg vf:Value) (an:Option Addr) (cn:Nat) (E:GEnv) (fr en l d sp:Int) (w:World) (hO:Es P w its vg vf (.slice an E.n cn) fr en l) (hi:its.length<=9000000) (hn:E.n<=1000000) (hd:0<=d) (hd1:d<=1000000) :
  Calls Tryz.prog 95 #[.pointer (some ⟨P,0,none⟩),.int .i64 d,.int .i64 sp] w fun e w'=>e = .returned (.int .i64 (regI d sp))/\Wrote P w its (readL E d sp) vg vf (.slice an E.n cn) fr en l w':=by
 have HO:=hide hO
 by_cases h5:5<=d
 ·have HL:Hid (readL E d sp = [insI 10 sp 2 0 (wordI E d)]):=by show _=_;unfold readL;rw [if_pos h5]
  have HWd:=wordG_any P its vg vf an cn E fr en l d w hO hn hd hd1
  have HP:=hide (putG_any P its _ 10 sp 2 0 (wordI E d) w hO hi)
  clear hO
  generalize wordI E d=wd at HWd HP HL
  go_enter Tryz.func95,Tryz.ntmps95
  go_wp2_with fail
  refine HWd.mono ?_
  rintro e w1 ⟨rfl,rfl⟩
  go_wp2_with fail
  refine HP.out.mono ?_
  rintro e w2 ⟨⟨u,rfl⟩,he,hw⟩
  have HR:Hid (Em 31 6 7 P w2 (its++[insI 10 sp 2 0 wd]) (cS vg vf (.slice an E.n cn) fr en l)/\Wq 6 P w1 w2):=⟨he,hw⟩
  have hlt:=he.lt
  clear he hw HP HWd
  go_wp2_with fail
  refine (regG_any d sp w2 hd).mono ?_
  rintro e w3 ⟨rfl,hb3⟩
  go_wp2_with fail
  go_ret
  exact ⟨rfl,by rw [HL.out];exact HR.out.1.below hb3,HR.out.2.trans (Wq.below hlt hb3)⟩
 ·have HL:Hid (readL E d sp = []):=by show _=_;unfold readL;rw [if_neg h5]
  have hlt:=hO.lt
  clear hO
  go_enter Tryz.func95,Tryz.ntmps95
  go_wp2_with fail
  refine (regG_any d sp w hd).mono ?_
  rintro e w3 ⟨rfl,hb3⟩
  go_wp2_with fail
  go_ret
  exact ⟨rfl,by rw [HL.out,List.append_nil];exact HO.out.below hb3,Wq.below hlt hb3⟩
theorem writeG_any (P:Nat) (its:List It) (vg vf:Value) (an:Option Addr) (cn:Nat) (E:GEnv) (fr en l d:Int) (w:World) (hO:Es P w its vg vf (.slice an E.n cn) fr en l) (hi:its.length<=9000000) (hn:E.n<=1000000) (hd:0<=d) (hd1:d<=1000000) :
  Calls Tryz.prog 94 #[.pointer (some ⟨P,0,none⟩),.int .i64 d] w fun e w'=>(∃u,e = .returned u)/\Wrote P w its (writeL E d) vg vf (.slice an E.n cn) fr en l w':=by
 have HO:=hide hO
 by_cases h5:5<=d
 ·have HL:Hid (writeL E d = [insI 11 0 2 30 (wordI E d)]):=by show _=_;unfold writeL;rw [if_pos h5]
  have HWd:=wordG_any P its vg vf an cn E fr en l d w hO hn hd hd1
  have HP:=hide (putG_any P its _ 11 0 2 30 (wordI E d) w hO hi)
  clear hO
  generalize wordI E d=wd at HWd HP HL
  go_enter Tryz.func94,Tryz.ntmps94
  go_wp2_with fail
  refine HWd.mono ?_
  rintro e w1 ⟨rfl,rfl⟩
  go_wp2_with fail
  refine HP.out.mono ?_
  rintro e w2 ⟨⟨u,rfl⟩,he,hw⟩
  have HR:Hid (Em 31 6 7 P w2 (its++[insI 11 0 2 30 wd]) (cS vg vf (.slice an E.n cn) fr en l)/\Wq 6 P w1 w2):=⟨he,hw⟩
  clear he hw HP HWd
  go_wp2_with fail
  exact bodyPost_end (v:=.tuple #[]) (by simp [results,Tryz.results94,go_sem]) rfl ⟨⟨_,rfl⟩,by rw [HL.out];exact HR.out.1,HR.out.2⟩
 ·have HL:Hid (writeL E d = []):=by show _=_;unfold writeL;rw [if_neg h5]
  clear hO
  go_enter Tryz.func94,Tryz.ntmps94
  go_wp2_with fail
  exact bodyPost_end (v:=.tuple #[]) (by simp [results,Tryz.results94,go_sem]) rfl ⟨⟨_,rfl⟩,by rw [HL.out,List.append_nil];exact HO.out,Wq.refl _ _ _⟩
end
section
open Go.RowKit
theorem Wrote.trans {P:Nat} {w w1 w2:World} {its a b:List It} {vg vf vn vg' vf' vn':Value} {fr en l fr' en' l':Int} (h:Wrote P w its a vg vf vn fr en l w1) (h':Wrote P w1 (its++a) b vg' vf' vn' fr' en' l' w2):Wrote P w its (a++b) vg' vf' vn' fr' en' l' w2:=
 ⟨by rw [<-List.append_assoc];exact h'.1,h.2.trans h'.2⟩
theorem putS (P:Nat) (its:List It) (vg vf vn:Value) (fr en l op rd s1 s2 im:Int) (w:World) (hO:Es P w its vg vf vn fr en l) (hi:its.length<=9000000) :
  Calls Tryz.prog 27 #[.pointer (some ⟨P,0,none⟩),.int .i64 op,.int .i64 rd,.int .i64 s1,.int .i64 s2,.int .i64 im] w fun e w'=>(∃u,e = .returned u)/\Wrote P w its [insI op rd s1 s2 im] vg vf vn fr en l w':=putG_any P its _ op rd s1 s2 im w hO hi
theorem answerG_any (P:Nat) (its:List It) (vg vf:Value) (an:Option Addr) (cn:Nat) (E:GEnv) (fr en l d:Int) (w:World) (hO:Es P w its vg vf (.slice an E.n cn) fr en l) (hi:its.length<=9000000) (hn:E.n<=1000000) (hd:0<=d) (hd1:d<=1000000) :
  Calls Tryz.prog 97 #[.pointer (some ⟨P,0,none⟩),.int .i64 d] w fun e w'=>(∃u,e = .returned u)/\Wrote P w its (answerL E d) vg vf (.slice an E.n cn) fr en l w':=by
 by_cases h5:5<=d
 ·have HL:Hid (answerL E d = [insI 11 0 2 10 (wordI E d)]):=by show _=_;unfold answerL;rw [if_pos h5]
  have HWd:=wordG_any P its vg vf an cn E fr en l d w hO hn hd hd1
  have HP:=hide (putS P its _ _ _ _ _ _ 11 0 2 10 (wordI E d) w hO hi)
  clear hO
  generalize wordI E d=wd at HWd HP HL
  go_enter Tryz.func97,Tryz.ntmps97
  go_wp2_with fail
  refine HWd.mono ?_
  rintro e w1 ⟨rfl,rfl⟩
  go_wp2_with fail
  refine HP.out.mono ?_
  rintro e w2 ⟨⟨u,rfl⟩,he⟩
  have HR:=hide he
  clear he HP HWd
  go_wp2_with fail
  exact bodyPost_end (v:=.tuple #[]) (by simp [results,Tryz.results97,go_sem]) rfl ⟨⟨_,rfl⟩,by rw [HL.out];exact HR.out⟩
 ·have HL:Hid (answerL E d = [insI 12 (regI d 30) 10 0 0]):=by show _=_;unfold answerL;rw [if_neg h5]
  have HO:=hide hO
  have hlt:=hO.lt
  clear hO
  go_enter Tryz.func97,Tryz.ntmps97
  go_wp2_with fail
  refine (regG_any d 30 w hd).mono ?_
  rintro e w1 ⟨rfl,hb1⟩
  have HP:=hide (putS P its _ _ _ _ _ _ 12 (regI d 30) 10 0 0 w1 (HO.out.below hb1) hi)
  have HW1:Hid (Wq 6 P w w1):=Wq.below hlt hb1
  generalize regI d 30=rg at HP HL
  clear hb1
  go_wp2_with fail
  refine HP.out.mono ?_
  rintro e w2 ⟨⟨u,rfl⟩,he⟩
  have HR:Hid (Wrote P w its [insI 12 rg 10 0 0] vg vf (.slice an E.n cn) fr en l w2):=⟨he.1,HW1.out.trans he.2⟩
  clear he HP
  go_wp2_with fail
  exact bodyPost_end (v:=.tuple #[]) (by simp [results,Tryz.results97,go_sem]) rfl ⟨⟨_,rfl⟩,by rw [HL.out];exact HR.out⟩
theorem and_20 (x:Int):bits .and .i64 x 1048575=x % 1048576:=by
 show IntKind.i64.wrap ((BitVec.ofInt 64 x &&& BitVec.ofInt 64 1048575).toNat:Int)=_
 have h:(BitVec.ofInt 64 x &&& BitVec.ofInt 64 1048575).toNat=(x % 1048576).toNat:=by
  rw [BitVec.toNat_and,BitVec.toNat_ofInt]
  have e:(BitVec.ofInt 64 1048575).toNat=2 ^ 20-1:=by decide
  rw [e,Nat.and_two_pow_sub_one_eq_mod]
  omega
 rw [h,IntKind.wrap_i64]
 omega
theorem loadG_any (P:Nat) (its:List It) (vg vf vn:Value) (fr en l reg v:Int) (w:World) (hO:Es P w its vg vf vn fr en l) (hi:its.length<=8999999) (hv : -2147483648<=v/\v<=2147483647) :
  Calls Tryz.prog 83 #[.pointer (some ⟨P,0,none⟩),.int .i64 reg,.int .i64 v] w fun e w'=>(∃u,e = .returned u)/\Wrote P w its (loadL reg v) vg vf vn fr en l w':=by
 by_cases h1 : -2048<=v/\v<=2047
 ·have HL:Hid (loadL reg v = [insI 12 reg 0 0 v]):=by show _=_;unfold loadL;rw [if_pos h1]
  have HP:=hide (putS P its _ _ _ _ _ _ 12 reg 0 0 v w hO (by omega))
  clear hO
  go_enter Tryz.func83,Tryz.ntmps83
  go_wp2_with fail
  refine (in_any v (-2048) 2047 w).mono ?_
  rintro e w1 ⟨rfl,rfl⟩
  rw [decide_eq_true h1]
  go_wp2_with fail
  refine HP.out.mono ?_
  rintro e w2 ⟨⟨u,rfl⟩,he⟩
  have HR:=hide he
  clear he HP
  go_wp2_with fail
  exact bodyPost_ret (v:=.tuple #[]) (by simp [results,Tryz.results83,go_sem]) rfl ⟨⟨_,rfl⟩,by rw [HL.out];exact HR.out⟩
 ·obtain ⟨hh,hhe⟩ : ∃hh,hh=(v+2048) / 4096:=⟨_,rfl⟩
  have hL:loadL reg v = [insI 1 reg 0 0 (hh % 1048576)]++(if v=hh*4096 then [] else [insI 12 reg reg 0 (v-hh*4096)]):=by unfold loadL;rw [if_neg h1,hhe]
  have HL:=hide hL
  have HP:=hide (putS P its _ _ _ _ _ _ 1 reg 0 0 (hh % 1048576) w hO (by omega))
  have hhb : -600000<=hh/\hh<=600000:=by omega
  have k0:IntKind.i64.wrap (hh*4096)=hh*4096:=by simp [IntKind.wrap,IntKind.bits,IntKind.signed];omega
  have k1:IntKind.i64.wrap (v-hh*4096)=v-hh*4096:=by simp [IntKind.wrap,IntKind.bits,IntKind.signed];omega
  have K2:Hid (bits BinOp.and IntKind.i64 ((v+2048) / 4096) 1048575=hh % 1048576):=by show _=_;rw [hhe];exact and_20 _
  have K3:Hid ((v+2048) / 4096=hh):=hhe.symm
  clear hO hL hhe
  go_enter Tryz.func83,Tryz.ntmps83
  go_wp2_with fail
  refine (in_any v (-2048) 2047 w).mono ?_
  rintro e w1 ⟨rfl,rfl⟩
  rw [decide_eq_false h1]
  go_wp2_with fail
  rw [K2.out,K3.out]
  refine HP.out.mono ?_
  rintro e w2 ⟨⟨u,rfl⟩,he⟩
  by_cases hz:v=hh*4096
  ·have HR:Hid (Wrote P w1 its (loadL reg v) vg vf vn fr en l w2):=by
    show Wrote _ _ _ _ _ _ _ _ _ _ _
    rw [HL.out,if_pos hz,List.append_nil]
    exact he
   have hzz:(v == hh*4096)=true:=by simpa using hz
   clear he HP HL
   go_wp2_with fail
   exact bodyPost_end (v:=.tuple #[]) (by simp [results,Tryz.results83,go_sem]) rfl ⟨⟨_,rfl⟩,HR.out⟩
  ·have HP2:=hide (putS P _ _ _ _ _ _ _ 12 reg reg 0 (v-hh*4096) w2 he.1 (by simp;omega))
   have HE1:=hide he
   have hzz:(v == hh*4096)=false:=by simpa using hz
   have HLz:Hid (loadL reg v = [insI 1 reg 0 0 (hh % 1048576)]++[insI 12 reg reg 0 (v-hh*4096)]):=by show _=_;rw [HL.out,if_neg hz]
   clear he HP HL
   go_wp2_with fail
   refine HP2.out.mono ?_
   rintro e w3 ⟨⟨u,rfl⟩,he3⟩
   have HR:Hid (Wrote P w1 its (loadL reg v) vg vf vn fr en l w3):=by
    show Wrote _ _ _ _ _ _ _ _ _ _ _
    rw [HLz.out]
    exact HE1.out.trans he3
   clear he3 HP2 HE1 HLz
   go_wp2_with fail
   exact bodyPost_end (v:=.tuple #[]) (by simp [results,Tryz.results83,go_sem]) rfl ⟨⟨_,rfl⟩,HR.out⟩
end
section
open Go.RowKit
set_option maxRecDepth 100000 in
set_option maxHeartbeats 4000000 in
theorem binG_any (P : Nat) (its : List It) (vg vf vn : Value) (fr en l op r a b : Int) (w : World) (hO : Es P w its vg vf vn fr en l) (hi : its.length ≤ 8999999) (h0 : 0 ≤ op) (h15 : op ≤ 15) :
  Calls Tryz.prog 98 #[.pointer (some ⟨P, 0, none⟩), .int .i64 op, .int .i64 r, .int .i64 a, .int .i64 b] w fun e w' => (∃ u, e = .returned u) ∧ Wrote P w its (binL op r a b) vg vf vn fr en l w' := by
 have hop : op = 0 ∨ op = 1 ∨ op = 2 ∨ op = 3 ∨ op = 4 ∨ op = 5 ∨ op = 6 ∨ op = 7 ∨ op = 8 ∨ op = 9 ∨ op = 10 ∨ op = 11 ∨ op = 12 ∨ op = 13 ∨ op = 14 ∨ op = 15 := by omega
 clear h0 h15
 rcases hop with rfl | rfl | rfl | rfl | rfl | rfl | rfl | rfl | rfl | rfl | rfl | rfl | rfl | rfl | rfl | rfl
 ·have HL : Hid (binL 0 r a b = [insI 31 r a b 0]) := rfl
  have HO : Hid (Es P w its vg vf vn fr en l) := hO
  have hlt := hO.lt
  have hA : ∀ o, Below w.heap.size w (w.alloc o) := fun o => (Below.refl _ _).alloc (Nat.le_refl _) o
  have HP : Hid (∀ o, Calls Tryz.prog 27 #[.pointer (some ⟨P, 0, none⟩), .int .i64 31, .int .i64 r, .int .i64 a, .int .i64 b, .int .i64 0] (w.alloc o) fun e w' => (∃ u, e = .returned u) ∧ Wrote P w its [insI 31 r a b 0] vg vf vn fr en l w') := fun o => (putS P its _ _ _ _ _ _ 31 r a b 0 (w.alloc o) (hO.below (hA o)) (by omega)).mono (by
   rintro e w' ⟨hu, h1, h2⟩
   exact ⟨hu, h1, (Wq.below hlt (hA o)).trans h2⟩)
  clear hO hA hlt
  go_enter Tryz.func98, Tryz.ntmps98
  go_wp2_with fail
  refine (HP.out _).mono ?_
  rintro e w2 ⟨⟨u, rfl⟩, he⟩
  have HR : Hid (Wrote P w its [insI 31 r a b 0] vg vf vn fr en l w2) := he
  clear he HP
  go_wp2_with fail
  exact bodyPost_end (v := .tuple #[]) (by simp [results, Tryz.results98, go_sem]) rfl ⟨⟨_, rfl⟩, by rw [HL.out]; exact HR.out⟩
 ·have HL : Hid (binL 1 r a b = [insI 32 r a b 0]) := rfl
  have HO : Hid (Es P w its vg vf vn fr en l) := hO
  have hlt := hO.lt
  have hA : ∀ o, Below w.heap.size w (w.alloc o) := fun o => (Below.refl _ _).alloc (Nat.le_refl _) o
  have HP : Hid (∀ o, Calls Tryz.prog 27 #[.pointer (some ⟨P, 0, none⟩), .int .i64 32, .int .i64 r, .int .i64 a, .int .i64 b, .int .i64 0] (w.alloc o) fun e w' => (∃ u, e = .returned u) ∧ Wrote P w its [insI 32 r a b 0] vg vf vn fr en l w') := fun o => (putS P its _ _ _ _ _ _ 32 r a b 0 (w.alloc o) (hO.below (hA o)) (by omega)).mono (by
   rintro e w' ⟨hu, h1, h2⟩
   exact ⟨hu, h1, (Wq.below hlt (hA o)).trans h2⟩)
  clear hO hA hlt
  go_enter Tryz.func98, Tryz.ntmps98
  go_wp2_with fail
  refine (HP.out _).mono ?_
  rintro e w2 ⟨⟨u, rfl⟩, he⟩
  have HR : Hid (Wrote P w its [insI 32 r a b 0] vg vf vn fr en l w2) := he
  clear he HP
  go_wp2_with fail
  exact bodyPost_end (v := .tuple #[]) (by simp [results, Tryz.results98, go_sem]) rfl ⟨⟨_, rfl⟩, by rw [HL.out]; exact HR.out⟩
 ·have HL : Hid (binL 2 r a b = [insI 33 r a b 0]) := rfl
  have HO : Hid (Es P w its vg vf vn fr en l) := hO
  have hlt := hO.lt
  have hA : ∀ o, Below w.heap.size w (w.alloc o) := fun o => (Below.refl _ _).alloc (Nat.le_refl _) o
  have HP : Hid (∀ o, Calls Tryz.prog 27 #[.pointer (some ⟨P, 0, none⟩), .int .i64 33, .int .i64 r, .int .i64 a, .int .i64 b, .int .i64 0] (w.alloc o) fun e w' => (∃ u, e = .returned u) ∧ Wrote P w its [insI 33 r a b 0] vg vf vn fr en l w') := fun o => (putS P its _ _ _ _ _ _ 33 r a b 0 (w.alloc o) (hO.below (hA o)) (by omega)).mono (by
   rintro e w' ⟨hu, h1, h2⟩
   exact ⟨hu, h1, (Wq.below hlt (hA o)).trans h2⟩)
  clear hO hA hlt
  go_enter Tryz.func98, Tryz.ntmps98
  go_wp2_with fail
  refine (HP.out _).mono ?_
  rintro e w2 ⟨⟨u, rfl⟩, he⟩
  have HR : Hid (Wrote P w its [insI 33 r a b 0] vg vf vn fr en l w2) := he
  clear he HP
  go_wp2_with fail
  exact bodyPost_end (v := .tuple #[]) (by simp [results, Tryz.results98, go_sem]) rfl ⟨⟨_, rfl⟩, by rw [HL.out]; exact HR.out⟩
 ·have HL : Hid (binL 3 r a b = [insI 21 r a b 0]) := rfl
  have HO : Hid (Es P w its vg vf vn fr en l) := hO
  have hlt := hO.lt
  have hA : ∀ o, Below w.heap.size w (w.alloc o) := fun o => (Below.refl _ _).alloc (Nat.le_refl _) o
  have HP : Hid (∀ o, Calls Tryz.prog 27 #[.pointer (some ⟨P, 0, none⟩), .int .i64 21, .int .i64 r, .int .i64 a, .int .i64 b, .int .i64 0] (w.alloc o) fun e w' => (∃ u, e = .returned u) ∧ Wrote P w its [insI 21 r a b 0] vg vf vn fr en l w') := fun o => (putS P its _ _ _ _ _ _ 21 r a b 0 (w.alloc o) (hO.below (hA o)) (by omega)).mono (by
   rintro e w' ⟨hu, h1, h2⟩
   exact ⟨hu, h1, (Wq.below hlt (hA o)).trans h2⟩)
  clear hO hA hlt
  go_enter Tryz.func98, Tryz.ntmps98
  go_wp2_with fail
  refine (HP.out _).mono ?_
  rintro e w2 ⟨⟨u, rfl⟩, he⟩
  have HR : Hid (Wrote P w its [insI 21 r a b 0] vg vf vn fr en l w2) := he
  clear he HP
  go_wp2_with fail
  exact bodyPost_end (v := .tuple #[]) (by simp [results, Tryz.results98, go_sem]) rfl ⟨⟨_, rfl⟩, by rw [HL.out]; exact HR.out⟩
 ·have HL : Hid (binL 4 r a b = [insI 22 r a b 0]) := rfl
  have HO : Hid (Es P w its vg vf vn fr en l) := hO
  have hlt := hO.lt
  have hA : ∀ o, Below w.heap.size w (w.alloc o) := fun o => (Below.refl _ _).alloc (Nat.le_refl _) o
  have HP : Hid (∀ o, Calls Tryz.prog 27 #[.pointer (some ⟨P, 0, none⟩), .int .i64 22, .int .i64 r, .int .i64 a, .int .i64 b, .int .i64 0] (w.alloc o) fun e w' => (∃ u, e = .returned u) ∧ Wrote P w its [insI 22 r a b 0] vg vf vn fr en l w') := fun o => (putS P its _ _ _ _ _ _ 22 r a b 0 (w.alloc o) (hO.below (hA o)) (by omega)).mono (by
   rintro e w' ⟨hu, h1, h2⟩
   exact ⟨hu, h1, (Wq.below hlt (hA o)).trans h2⟩)
  clear hO hA hlt
  go_enter Tryz.func98, Tryz.ntmps98
  go_wp2_with fail
  refine (HP.out _).mono ?_
  rintro e w2 ⟨⟨u, rfl⟩, he⟩
  have HR : Hid (Wrote P w its [insI 22 r a b 0] vg vf vn fr en l w2) := he
  clear he HP
  go_wp2_with fail
  exact bodyPost_end (v := .tuple #[]) (by simp [results, Tryz.results98, go_sem]) rfl ⟨⟨_, rfl⟩, by rw [HL.out]; exact HR.out⟩
 ·have HL : Hid (binL 5 r a b = [insI 23 r a b 0]) := rfl
  have HO : Hid (Es P w its vg vf vn fr en l) := hO
  have hlt := hO.lt
  have hA : ∀ o, Below w.heap.size w (w.alloc o) := fun o => (Below.refl _ _).alloc (Nat.le_refl _) o
  have HP : Hid (∀ o, Calls Tryz.prog 27 #[.pointer (some ⟨P, 0, none⟩), .int .i64 23, .int .i64 r, .int .i64 a, .int .i64 b, .int .i64 0] (w.alloc o) fun e w' => (∃ u, e = .returned u) ∧ Wrote P w its [insI 23 r a b 0] vg vf vn fr en l w') := fun o => (putS P its _ _ _ _ _ _ 23 r a b 0 (w.alloc o) (hO.below (hA o)) (by omega)).mono (by
   rintro e w' ⟨hu, h1, h2⟩
   exact ⟨hu, h1, (Wq.below hlt (hA o)).trans h2⟩)
  clear hO hA hlt
  go_enter Tryz.func98, Tryz.ntmps98
  go_wp2_with fail
  refine (HP.out _).mono ?_
  rintro e w2 ⟨⟨u, rfl⟩, he⟩
  have HR : Hid (Wrote P w its [insI 23 r a b 0] vg vf vn fr en l w2) := he
  clear he HP
  go_wp2_with fail
  exact bodyPost_end (v := .tuple #[]) (by simp [results, Tryz.results98, go_sem]) rfl ⟨⟨_, rfl⟩, by rw [HL.out]; exact HR.out⟩
 ·have HL : Hid (binL 6 r a b = [insI 28 r a b 0]) := rfl
  have HO : Hid (Es P w its vg vf vn fr en l) := hO
  have hlt := hO.lt
  have hA : ∀ o, Below w.heap.size w (w.alloc o) := fun o => (Below.refl _ _).alloc (Nat.le_refl _) o
  have HP : Hid (∀ o, Calls Tryz.prog 27 #[.pointer (some ⟨P, 0, none⟩), .int .i64 28, .int .i64 r, .int .i64 a, .int .i64 b, .int .i64 0] (w.alloc o) fun e w' => (∃ u, e = .returned u) ∧ Wrote P w its [insI 28 r a b 0] vg vf vn fr en l w') := fun o => (putS P its _ _ _ _ _ _ 28 r a b 0 (w.alloc o) (hO.below (hA o)) (by omega)).mono (by
   rintro e w' ⟨hu, h1, h2⟩
   exact ⟨hu, h1, (Wq.below hlt (hA o)).trans h2⟩)
  clear hO hA hlt
  go_enter Tryz.func98, Tryz.ntmps98
  go_wp2_with fail
  refine (HP.out _).mono ?_
  rintro e w2 ⟨⟨u, rfl⟩, he⟩
  have HR : Hid (Wrote P w its [insI 28 r a b 0] vg vf vn fr en l w2) := he
  clear he HP
  go_wp2_with fail
  exact bodyPost_end (v := .tuple #[]) (by simp [results, Tryz.results98, go_sem]) rfl ⟨⟨_, rfl⟩, by rw [HL.out]; exact HR.out⟩
 ·have HL : Hid (binL 7 r a b = [insI 24 r a b 0]) := rfl
  have HP : Hid (Calls Tryz.prog 27 #[.pointer (some ⟨P, 0, none⟩), .int .i64 24, .int .i64 r, .int .i64 a, .int .i64 b, .int .i64 0] w fun e w' => (∃ u, e = .returned u) ∧ Wrote P w its [insI 24 r a b 0] vg vf vn fr en l w') := putS P its _ _ _ _ _ _ 24 r a b 0 w hO (by omega)
  clear hO
  go_enter Tryz.func98, Tryz.ntmps98
  go_wp2_with fail
  refine HP.out.mono ?_
  rintro e w2 ⟨⟨u, rfl⟩, he⟩
  have HR : Hid (Wrote P w its [insI 24 r a b 0] vg vf vn fr en l w2) := he
  clear he HP
  go_wp2_with fail
  exact bodyPost_end (v := .tuple #[]) (by simp [results, Tryz.results98, go_sem]) rfl ⟨⟨_, rfl⟩, by rw [HL.out]; exact HR.out⟩
 ·have HL : Hid (binL 8 r a b = [insI 24 r b a 0] ++ [insI 15 r r 0 1]) := rfl
  have HP : Hid (Calls Tryz.prog 27 #[.pointer (some ⟨P, 0, none⟩), .int .i64 24, .int .i64 r, .int .i64 b, .int .i64 a, .int .i64 0] w fun e w' => (∃ u, e = .returned u) ∧ Wrote P w its [insI 24 r b a 0] vg vf vn fr en l w') := putS P its _ _ _ _ _ _ 24 r b a 0 w hO (by omega)
  clear hO
  go_enter Tryz.func98, Tryz.ntmps98
  go_wp2_with fail
  refine HP.out.mono ?_
  rintro e w2 ⟨⟨u, rfl⟩, he⟩
  have HP2 : Hid (Calls Tryz.prog 27 #[.pointer (some ⟨P, 0, none⟩), .int .i64 15, .int .i64 r, .int .i64 r, .int .i64 0, .int .i64 1] w2 fun e w' => (∃ u, e = .returned u) ∧ Wrote P w2 (its ++ [insI 24 r b a 0]) [insI 15 r r 0 1] vg vf vn fr en l w') := putS P _ _ _ _ _ _ _ 15 r r 0 1 w2 he.1 (by simp; omega)
  have HE1 : Hid (Wrote P w its [insI 24 r b a 0] vg vf vn fr en l w2) := he
  clear he HP
  go_wp2_with fail
  refine HP2.out.mono ?_
  rintro e w3 ⟨⟨u, rfl⟩, he3⟩
  have HR : Hid (Wrote P w its ([insI 24 r b a 0] ++ [insI 15 r r 0 1]) vg vf vn fr en l w3) := HE1.out.trans he3
  clear he3 HP2 HE1
  go_wp2_with fail
  exact bodyPost_end (v := .tuple #[]) (by simp [results, Tryz.results98, go_sem]) rfl ⟨⟨_, rfl⟩, by rw [HL.out]; exact HR.out⟩
 ·have HL : Hid (binL 9 r a b = [insI 24 r b a 0]) := rfl
  have HP : Hid (Calls Tryz.prog 27 #[.pointer (some ⟨P, 0, none⟩), .int .i64 24, .int .i64 r, .int .i64 b, .int .i64 a, .int .i64 0] w fun e w' => (∃ u, e = .returned u) ∧ Wrote P w its [insI 24 r b a 0] vg vf vn fr en l w') := putS P its _ _ _ _ _ _ 24 r b a 0 w hO (by omega)
  clear hO
  go_enter Tryz.func98, Tryz.ntmps98
  go_wp2_with fail
  refine HP.out.mono ?_
  rintro e w2 ⟨⟨u, rfl⟩, he⟩
  have HR : Hid (Wrote P w its [insI 24 r b a 0] vg vf vn fr en l w2) := he
  clear he HP
  go_wp2_with fail
  exact bodyPost_end (v := .tuple #[]) (by simp [results, Tryz.results98, go_sem]) rfl ⟨⟨_, rfl⟩, by rw [HL.out]; exact HR.out⟩
 ·have HL : Hid (binL 10 r a b = [insI 24 r a b 0] ++ [insI 15 r r 0 1]) := rfl
  have HP : Hid (Calls Tryz.prog 27 #[.pointer (some ⟨P, 0, none⟩), .int .i64 24, .int .i64 r, .int .i64 a, .int .i64 b, .int .i64 0] w fun e w' => (∃ u, e = .returned u) ∧ Wrote P w its [insI 24 r a b 0] vg vf vn fr en l w') := putS P its _ _ _ _ _ _ 24 r a b 0 w hO (by omega)
  clear hO
  go_enter Tryz.func98, Tryz.ntmps98
  go_wp2_with fail
  refine HP.out.mono ?_
  rintro e w2 ⟨⟨u, rfl⟩, he⟩
  have HP2 : Hid (Calls Tryz.prog 27 #[.pointer (some ⟨P, 0, none⟩), .int .i64 15, .int .i64 r, .int .i64 r, .int .i64 0, .int .i64 1] w2 fun e w' => (∃ u, e = .returned u) ∧ Wrote P w2 (its ++ [insI 24 r a b 0]) [insI 15 r r 0 1] vg vf vn fr en l w') := putS P _ _ _ _ _ _ _ 15 r r 0 1 w2 he.1 (by simp; omega)
  have HE1 : Hid (Wrote P w its [insI 24 r a b 0] vg vf vn fr en l w2) := he
  clear he HP
  go_wp2_with fail
  refine HP2.out.mono ?_
  rintro e w3 ⟨⟨u, rfl⟩, he3⟩
  have HR : Hid (Wrote P w its ([insI 24 r a b 0] ++ [insI 15 r r 0 1]) vg vf vn fr en l w3) := HE1.out.trans he3
  clear he3 HP2 HE1
  go_wp2_with fail
  exact bodyPost_end (v := .tuple #[]) (by simp [results, Tryz.results98, go_sem]) rfl ⟨⟨_, rfl⟩, by rw [HL.out]; exact HR.out⟩
 ·have HL : Hid (binL 11 r a b = [insI 22 r a b 0] ++ [insI 14 r r 0 1]) := rfl
  have HP : Hid (Calls Tryz.prog 27 #[.pointer (some ⟨P, 0, none⟩), .int .i64 22, .int .i64 r, .int .i64 a, .int .i64 b, .int .i64 0] w fun e w' => (∃ u, e = .returned u) ∧ Wrote P w its [insI 22 r a b 0] vg vf vn fr en l w') := putS P its _ _ _ _ _ _ 22 r a b 0 w hO (by omega)
  clear hO
  go_enter Tryz.func98, Tryz.ntmps98
  go_wp2_with fail
  refine HP.out.mono ?_
  rintro e w2 ⟨⟨u, rfl⟩, he⟩
  have HP2 : Hid (Calls Tryz.prog 27 #[.pointer (some ⟨P, 0, none⟩), .int .i64 14, .int .i64 r, .int .i64 r, .int .i64 0, .int .i64 1] w2 fun e w' => (∃ u, e = .returned u) ∧ Wrote P w2 (its ++ [insI 22 r a b 0]) [insI 14 r r 0 1] vg vf vn fr en l w') := putS P _ _ _ _ _ _ _ 14 r r 0 1 w2 he.1 (by simp; omega)
  have HE1 : Hid (Wrote P w its [insI 22 r a b 0] vg vf vn fr en l w2) := he
  clear he HP
  go_wp2_with fail
  refine HP2.out.mono ?_
  rintro e w3 ⟨⟨u, rfl⟩, he3⟩
  have HR : Hid (Wrote P w its ([insI 22 r a b 0] ++ [insI 14 r r 0 1]) vg vf vn fr en l w3) := HE1.out.trans he3
  clear he3 HP2 HE1
  go_wp2_with fail
  exact bodyPost_end (v := .tuple #[]) (by simp [results, Tryz.results98, go_sem]) rfl ⟨⟨_, rfl⟩, by rw [HL.out]; exact HR.out⟩
 ·have HL : Hid (binL 12 r a b = [insI 22 r a b 0] ++ [insI 25 r 0 r 0]) := rfl
  have HP : Hid (Calls Tryz.prog 27 #[.pointer (some ⟨P, 0, none⟩), .int .i64 22, .int .i64 r, .int .i64 a, .int .i64 b, .int .i64 0] w fun e w' => (∃ u, e = .returned u) ∧ Wrote P w its [insI 22 r a b 0] vg vf vn fr en l w') := putS P its _ _ _ _ _ _ 22 r a b 0 w hO (by omega)
  clear hO
  go_enter Tryz.func98, Tryz.ntmps98
  go_wp2_with fail
  refine HP.out.mono ?_
  rintro e w2 ⟨⟨u, rfl⟩, he⟩
  have HP2 : Hid (Calls Tryz.prog 27 #[.pointer (some ⟨P, 0, none⟩), .int .i64 25, .int .i64 r, .int .i64 0, .int .i64 r, .int .i64 0] w2 fun e w' => (∃ u, e = .returned u) ∧ Wrote P w2 (its ++ [insI 22 r a b 0]) [insI 25 r 0 r 0] vg vf vn fr en l w') := putS P _ _ _ _ _ _ _ 25 r 0 r 0 w2 he.1 (by simp; omega)
  have HE1 : Hid (Wrote P w its [insI 22 r a b 0] vg vf vn fr en l w2) := he
  clear he HP
  go_wp2_with fail
  refine HP2.out.mono ?_
  rintro e w3 ⟨⟨u, rfl⟩, he3⟩
  have HR : Hid (Wrote P w its ([insI 22 r a b 0] ++ [insI 25 r 0 r 0]) vg vf vn fr en l w3) := HE1.out.trans he3
  clear he3 HP2 HE1
  go_wp2_with fail
  exact bodyPost_end (v := .tuple #[]) (by simp [results, Tryz.results98, go_sem]) rfl ⟨⟨_, rfl⟩, by rw [HL.out]; exact HR.out⟩
 ·have HL : Hid (binL 13 r a b = [insI 30 r a b 0]) := rfl
  have HO : Hid (Es P w its vg vf vn fr en l) := hO
  have hlt := hO.lt
  have hA : ∀ o, Below w.heap.size w (w.alloc o) := fun o => (Below.refl _ _).alloc (Nat.le_refl _) o
  have HP : Hid (∀ o, Calls Tryz.prog 27 #[.pointer (some ⟨P, 0, none⟩), .int .i64 30, .int .i64 r, .int .i64 a, .int .i64 b, .int .i64 0] (w.alloc o) fun e w' => (∃ u, e = .returned u) ∧ Wrote P w its [insI 30 r a b 0] vg vf vn fr en l w') := fun o => (putS P its _ _ _ _ _ _ 30 r a b 0 (w.alloc o) (hO.below (hA o)) (by omega)).mono (by
   rintro e w' ⟨hu, h1, h2⟩
   exact ⟨hu, h1, (Wq.below hlt (hA o)).trans h2⟩)
  clear hO hA hlt
  go_enter Tryz.func98, Tryz.ntmps98
  go_wp2_with fail
  refine (HP.out _).mono ?_
  rintro e w2 ⟨⟨u, rfl⟩, he⟩
  have HR : Hid (Wrote P w its [insI 30 r a b 0] vg vf vn fr en l w2) := he
  clear he HP
  go_wp2_with fail
  exact bodyPost_end (v := .tuple #[]) (by simp [results, Tryz.results98, go_sem]) rfl ⟨⟨_, rfl⟩, by rw [HL.out]; exact HR.out⟩
 ·have HL : Hid (binL 14 r a b = [insI 26 r a b 0]) := rfl
  have HO : Hid (Es P w its vg vf vn fr en l) := hO
  have hlt := hO.lt
  have hA : ∀ o, Below w.heap.size w (w.alloc o) := fun o => (Below.refl _ _).alloc (Nat.le_refl _) o
  have HP : Hid (∀ o, Calls Tryz.prog 27 #[.pointer (some ⟨P, 0, none⟩), .int .i64 26, .int .i64 r, .int .i64 a, .int .i64 b, .int .i64 0] (w.alloc o) fun e w' => (∃ u, e = .returned u) ∧ Wrote P w its [insI 26 r a b 0] vg vf vn fr en l w') := fun o => (putS P its _ _ _ _ _ _ 26 r a b 0 (w.alloc o) (hO.below (hA o)) (by omega)).mono (by
   rintro e w' ⟨hu, h1, h2⟩
   exact ⟨hu, h1, (Wq.below hlt (hA o)).trans h2⟩)
  clear hO hA hlt
  go_enter Tryz.func98, Tryz.ntmps98
  go_wp2_with fail
  refine (HP.out _).mono ?_
  rintro e w2 ⟨⟨u, rfl⟩, he⟩
  have HR : Hid (Wrote P w its [insI 26 r a b 0] vg vf vn fr en l w2) := he
  clear he HP
  go_wp2_with fail
  exact bodyPost_end (v := .tuple #[]) (by simp [results, Tryz.results98, go_sem]) rfl ⟨⟨_, rfl⟩, by rw [HL.out]; exact HR.out⟩
 ·have HL : Hid (binL 15 r a b = [insI 29 r a b 0]) := rfl
  have HO : Hid (Es P w its vg vf vn fr en l) := hO
  have hlt := hO.lt
  have hA : ∀ o, Below w.heap.size w (w.alloc o) := fun o => (Below.refl _ _).alloc (Nat.le_refl _) o
  have HP : Hid (∀ o, Calls Tryz.prog 27 #[.pointer (some ⟨P, 0, none⟩), .int .i64 29, .int .i64 r, .int .i64 a, .int .i64 b, .int .i64 0] (w.alloc o) fun e w' => (∃ u, e = .returned u) ∧ Wrote P w its [insI 29 r a b 0] vg vf vn fr en l w') := fun o => (putS P its _ _ _ _ _ _ 29 r a b 0 (w.alloc o) (hO.below (hA o)) (by omega)).mono (by
   rintro e w' ⟨hu, h1, h2⟩
   exact ⟨hu, h1, (Wq.below hlt (hA o)).trans h2⟩)
  clear hO hA hlt
  go_enter Tryz.func98, Tryz.ntmps98
  go_wp2_with fail
  refine (HP.out _).mono ?_
  rintro e w2 ⟨⟨u, rfl⟩, he⟩
  have HR : Hid (Wrote P w its [insI 29 r a b 0] vg vf vn fr en l w2) := he
  clear he HP
  go_wp2_with fail
  exact bodyPost_end (v := .tuple #[]) (by simp [results, Tryz.results98, go_sem]) rfl ⟨⟨_, rfl⟩, by rw [HL.out]; exact HR.out⟩
end
end Go.Proofs.YtpdndlghjldhjaaGreat
