import Derived.Test.YtnpidjamplmgjaaGreatDoorQ04
import Derived.OwnWalk
import Derived.Laws.OwnMore
import Derived.Laws.AppendOwnNone
import Derived.Deep.RegionHeldLaw
namespace Go.Proofs.YtnpidjamplmgjaaGreatDoor
open Go.RowKit
set_option linter.unusedVariables false
set_option linter.unusedSimpArgs false
set_option maxRecDepth 100000
set_option maxHeartbeats 16000000
def encNd (n:Nd):List Value:=[.int .i64 n.kind,.int .i64 n.val,.string n.name]
def flatN (ns:List Nd):List Value:=ns.flatMap encNd
theorem flatN_len (ns:List Nd):(flatN ns).length=ns.length*3:=by
 induction ns with
 | nil=>rfl
 | cons n r ih=>
  have:flatN (n::r)=encNd n++flatN r:=rfl
  rw [this,l_a,ih]
  simp [encNd]
  omega
theorem flatN_append (a b:List Nd):flatN (a++b)=flatN a++flatN b:=by simp [flatN]
theorem flatN_at (ns:List Nd) (j:Nat) (hj:j<ns.length):(flatN ns)[j*3]? = some (.int .i64 ns[j].kind)/\(flatN ns)[j*3+1]? = some (.int .i64 ns[j].val)/\(flatN ns)[j*3+2]? = some (.string ns[j].name):=by
 induction ns generalizing j with
 | nil=>simp at hj
 | cons n r ih=>
  have e:flatN (n::r)=encNd n++flatN r:=rfl
  cases j with
  | zero=>rw [e];simp [encNd]
  | succ j=>
   have:=ih j (by simpa using hj)
   rw [e]
   have e1:(j+1)*3=j*3+3:=by omega
   have hl:(encNd n).length=3:=rfl
   refine ⟨?_,?_,?_⟩
   ·rw [e1,List.getElem?_append_right o_,hl];simpa using this.1
   ·rw [e1,List.getElem?_append_right o_,hl,show j*3+3+1-3=j*3+1 by omega];simpa using this.2.1
   ·rw [e1,List.getElem?_append_right o_,hl,show j*3+3+2-3=j*3+2 by omega];simpa using this.2.2
theorem flatN_split (ns:List Nd) (i:Nat) (hi:i<ns.length*3) : ∃j,j<ns.length/\(i=j*3∨i=j*3+1∨i=j*3+2):=⟨i / 3,by omega,by omega⟩
theorem addrO (g off j:Nat):(⟨g,off,none⟩:Addr).add j=⟨g,off+j,none⟩:=by
 simp [Addr.add]
 try (intro h;omega)
theorem nodes_news {w:World} {b off:Nat} {ns:List Nd} (h:NodesC w b off ns) : ∀i u,(flatN ns)[i]? = some u->w.cell? ((⟨b,off,none⟩:Addr).add i)=some u:=by
 intro i u hu
 have hi:i<ns.length*3:=by rw [<-flatN_len];exact (List.getElem?_eq_some_iff.1 hu).1
 obtain ⟨j,hj,he⟩:=flatN_split ns i hi
 obtain ⟨f0,f1,f2⟩:=flatN_at ns j hj
 obtain ⟨c0,c1,c2⟩:=h j hj
 rw [addrO]
 rcases he with rfl | rfl | rfl
 ·rw [f0] at hu;cases hu;exact c0
 ·rw [f1] at hu;cases hu;rw [<-Nat.add_assoc];exact c1
 ·rw [f2] at hu;cases hu;rw [<-Nat.add_assoc];exact c2
theorem flatN_one (ns:List Nd) : ∀u∈flatN ns,u.oneCell'=true:=by
 intro u hu
 simp only [flatN,List.mem_flatMap] at hu
 obtain ⟨n,_,hn⟩:=hu
 simp only [encNd,List.mem_cons,List.not_mem_nil,or_false] at hn
 rcases hn with rfl | rfl | rfl <;> rfl
def NRow (B:Nat) (w:World) (v:Value) (ns:List Nd):Prop:=w.ownsRow B 151 3 v ns.length (flatN ns)
theorem NRow.nodes {B:Nat} {w:World} {v:Value} {ns:List Nd} (h:NRow B w v ns):Nodes w v ns:=by
 have h0:=h
 obtain ⟨hl,h⟩:=h
 rcases h with ⟨rfl,hz⟩ | ⟨g,cap,cur,rfl,hg,hh,hc1,hc2,hc3,hc4⟩
 ·exact ⟨none,0,by rw [hz],by omega,by omega,fun h=>absurd h o_⟩
 ·refine ⟨_,cap,rfl,hc1,by simp only [maxLen] at hc2;omega,fun _=>⟨g,0,rfl,fun j hj => ?_⟩⟩
  obtain ⟨f0,f1,f2⟩:=flatN_at ns j hj
  have k0:=World.ownsRow.cells h0 (g:=g) rfl _ _ f0
  have k1:=World.ownsRow.cells h0 (g:=g) rfl _ _ f1
  have k2:=World.ownsRow.cells h0 (g:=g) rfl _ _ f2
  rw [addrO] at k0 k1 k2
  exact ⟨k0,by rw [Nat.add_assoc];exact k1,by rw [Nat.add_assoc];exact k2⟩
theorem info_node:(Tryz.prog.info? 151).map (fun i=>(i.zero,i.size,i.bytes))=some (some (.agg #[.int .i64 0,.int .i64 0,.string ⟨#[]⟩]),3,32):=by kernel_rfl
theorem ownG {w w':World} {B:Nat} {e:TypeId} {sz:Nat} {v:Value} {n:Nat} {xs:List Value} {row:Option Nat} (h:w.ownsRow B e sz v n xs) (hg:w.grownBy w' row) (hne : ∀g,v.ownBlock=some g->row≠some g):w'.ownsRow B e sz v n xs:=by
 obtain ⟨g1,g2⟩:=h
 refine ⟨g1,?_⟩
 rcases g2 with g2 | ⟨g,cap,cur,rfl,g3,g4,g5⟩
 ·exact .inl g2
 ·refine .inr ⟨g,cap,cur,rfl,g3,?_,g5⟩
  rw [hg.block g (Array.getElem?_eq_some_iff.1 g4).1 (fun e=>hne g rfl e.symm)]
  exact g4
theorem ownB {w w':World} {B:Nat} {e:TypeId} {sz:Nat} {v:Value} {n:Nat} {xs:List Value} (h:w.ownsRow B e sz v n xs) (hb:Below w.heap.size w w'):w'.ownsRow B e sz v n xs:=by
 obtain ⟨g1,g2⟩:=h
 refine ⟨g1,?_⟩
 rcases g2 with g2 | ⟨g,cap,cur,rfl,g3,g4,g5⟩
 ·exact .inl g2
 ·refine .inr ⟨g,cap,cur,rfl,g3,?_,g5⟩
  rw [hb.block g (Array.getElem?_eq_some_iff.1 g4).1]
  exact g4
section
variable {w:World}
end
theorem info_item:(Tryz.prog.info? 70).map (fun i=>(i.zero,i.size,i.bytes))=some (some (.agg #[.int .i64 0,.int .i64 0,.int .i64 0,.int .i64 0,.int .i64 0,.int .i64 0,.int .i64 0]),7,56):=by kernel_rfl
theorem cellsI_one (x:It) : ∀u∈cellsI x,u.oneCell'=true:=by
 intro u hu
 simp only [cellsI,List.mem_cons,List.not_mem_nil,or_false] at hu
 rcases hu with rfl | rfl | rfl | rfl | rfl | rfl | rfl <;> rfl
theorem flatI_single (x:It):flatI [x]=cellsI x:=by simp [flatI]
theorem item_cells (w:World) (x:It) (t:TypeId) : ∀j u,(flatI [x])[j]? = some u->(w.alloc (.cells #[.int .i64 x.kind,.int .i64 x.ins.op,.int .i64 x.ins.rd,.int .i64 x.ins.s1,.int .i64 x.ins.s2,.int .i64 x.ins.im,.int .i64 x.label] t)).cell? ((⟨w.heap.size,0,none⟩:Addr).add j)=some u:=by
 intro j u hj
 rw [flatI_single] at hj
 have hl:j<7:=by
  have:=(List.getElem?_eq_some_iff.1 hj).1
  simpa [cellsI] using this
 have e:(⟨w.heap.size,0,none⟩:Addr).add j=⟨w.heap.size,j,none⟩:=by simp only [Addr.add];split <;> simp_all
 rw [e]
 have h7:j=0∨j=1∨j=2∨j=3∨j=4∨j=5∨j=6:=by omega
 rcases h7 with rfl | rfl | rfl | rfl | rfl | rfl | rfl <;> (simp [cellsI] at hj;rw [<-hj];simp)
theorem wpList_appT {w:World} {ops:Array Oper} {rest:List Oper} {o:Oper} {a:Act} {Q:Exit->Act->World->Prop} (hgd:o.guard=none) (s x:Operand)
  (ho:o.op = .call {callee:=.builtin .append,args:=#[s,x],argTypes:=#[27,27]})
  (B:Nat) (v:Value) (its:List It) (it:It) (hs:a.eval s=v) (hown:w.ownsRow B 70 7 v its.length (flatI its)) (b c:Nat) (hx:a.eval x = .slice (some ⟨b,0,none⟩) 1 c) (hz : ∀j u,(flatI [it])[j]? = some u->w.cell? ((⟨b,0,none⟩:Addr).add j)=some u)
  (hm:its.length<=9000000) (hbase:B<=w.heap.size)
  (h : ∀v' w',w'.ownsRow B 70 7 v' (its.length + [it].length) (flatI its++flatI [it])->w.grownBy w' v.ownBlock->(∀k,v'.ownBlock=some k->v.ownBlock=some k∨w.heap.size<=k)->wpList Tryz.prog ops Q rest (a.put o.dst v') w'):wpList Tryz.prog ops Q (o::rest) a w:=by
 obtain ⟨i1,hj,hy0,hy1,hy2⟩:=info_parts info_item
 exact wpList_appF hgd s x _ ho B 70 i1 _ 7 56 Tryz.underlying27 hj hy0 hy1 hy2 rfl (by decide) v its.length (flatI its) hs hown ⟨b,0,none⟩ 1 c (flatI [it]) hx (flatI_len [it]) hz (fun u hu=>cellsI_one it u (by rw [flatI_single] at hu;exact hu)) o_ (by decide) hbase h
theorem putG_any (P:Nat) (its:List It) (c:Nat->Value) (op rd s1 s2 im:Int) (w:World) (hO:Em 70 6 7 P w its c) (hl:its.length<=9000000) :
  Calls Tryz.prog 18 #[.pointer (some ⟨P,0,none⟩),.int .i64 op,.int .i64 rd,.int .i64 s1,.int .i64 s2,.int .i64 im] w fun e w'=>(∃u,e = .returned u)/\Em 70 6 7 P w' (its++[insI op rd s1 s2 im]) c/\Wq 6 P w w':=by
 have HO:Hid (Em 70 6 7 P w its c):=hO
 obtain ⟨hlt,hfz,⟨v,hv,hrow⟩,hoth⟩:=hO
 obtain ⟨a0,c0,hvs⟩ : ∃a0 c0,v = .slice a0 its.length c0:=by
  rcases hrow.2 with ⟨rfl,hz⟩ | ⟨g,cap,cur,rfl,_⟩
  ·exact ⟨none,0,by rw [hz]⟩
  ·exact ⟨_,cap,rfl⟩
 subst hvs
 have HO1:Hid (Em 70 6 7 P (w.alloc (.cells #[.int .i64 1,.int .i64 op,.int .i64 rd,.int .i64 s1,.int .i64 s2,.int .i64 im,.int .i64 0] 70)) its c):=HO.out.below (bel_a _ _)
 have hv1:(w.alloc (.cells #[.int .i64 1,.int .i64 op,.int .i64 rd,.int .i64 s1,.int .i64 s2,.int .i64 im,.int .i64 0] 70)).cell? ⟨P,6,none⟩=some (.slice a0 its.length c0):=by rw [World.cell?_alloc_lt _ _ ⟨P,6,none⟩ hlt];exact hv
 obtain ⟨v1,hv1',hrow1⟩:=HO1.out.row
 rw [hv1] at hv1'
 obtain rfl:=Option.some.inj hv1'
 have HR1:=hide hrow1
 have HV1:=hide hv1
 have HW1:Hid (Wq 6 P w (w.alloc (.cells #[.int .i64 1,.int .i64 op,.int .i64 rd,.int .i64 s1,.int .i64 s2,.int .i64 im,.int .i64 0] 70))):=Wq.below hlt (bel_a _ _)
 have hzz:=item_cells w (insI op rd s1 s2 im) 70
 have HZZ:=hide hzz
 clear hrow hoth hfz hrow1 hv1 hzz
 go_enter Tryz.func18,Tryz.ntmps18
 go_wp2_with (at_builtin;refine wpList_appT rfl _ _ rfl (P+1) _ its (insI op rd s1 s2 im) rfl HR1.out w.heap.size 1 rfl HZZ.out hl (by simp;omega) ?_)
 intro v2 w2 hown2 hg2 hf2
 obtain ⟨f2,c2,hO2,hW2⟩:=em_step HO1.out HV1.out hown2 hg2 (fun k hk=>by rw [World.size_alloc];exact hf2 k hk)
 obtain ⟨va,vn,vc,rfl⟩ : ∃va vn vc,v2 = .slice va vn vc:=by
  rcases hown2.2 with ⟨rfl,_⟩ | ⟨g,cap,cur,rfl,_⟩
  ·exact ⟨_,_,_,rfl⟩
  ·exact ⟨_,_,_,rfl⟩
 have HR:Hid (Em 70 6 7 P (w2.setCell ⟨P,6,none⟩ (.slice va vn vc)) (its++[insI op rd s1 s2 im]) c/\Wq 6 P w (w2.setCell ⟨P,6,none⟩ (.slice va vn vc))):=⟨hO2,HW1.out.trans hW2⟩
 clear hown2 hg2 hf2 hO2 hW2
 go_wp2_with fail
 exact bodyPost_end (v:=.tuple #[]) (by simp [results,Tryz.results18,go_sem]) rfl ⟨⟨_,rfl⟩,HR.out⟩
theorem markG_any (P:Nat) (its:List It) (c:Nat->Value) (kd lb:Int) (w:World) (hO:Em 70 6 7 P w its c) (hl:its.length<=9000000) :
  Calls Tryz.prog 16 #[.pointer (some ⟨P,0,none⟩),.int .i64 kd,.int .i64 lb] w fun e w'=>(∃u,e = .returned u)/\Em 70 6 7 P w' (its++[markI kd lb]) c/\Wq 6 P w w':=by
 have HO:Hid (Em 70 6 7 P w its c):=hO
 obtain ⟨hlt,hfz,⟨v,hv,hrow⟩,hoth⟩:=hO
 obtain ⟨a0,c0,hvs⟩ : ∃a0 c0,v = .slice a0 its.length c0:=by
  rcases hrow.2 with ⟨rfl,hz⟩ | ⟨g,cap,cur,rfl,_⟩
  ·exact ⟨none,0,by rw [hz]⟩
  ·exact ⟨_,cap,rfl⟩
 subst hvs
 have HO1:Hid (Em 70 6 7 P (w.alloc (.cells #[.int .i64 kd,.int .i64 0,.int .i64 0,.int .i64 0,.int .i64 0,.int .i64 0,.int .i64 lb] 70)) its c):=HO.out.below (bel_a _ _)
 have hv1:(w.alloc (.cells #[.int .i64 kd,.int .i64 0,.int .i64 0,.int .i64 0,.int .i64 0,.int .i64 0,.int .i64 lb] 70)).cell? ⟨P,6,none⟩=some (.slice a0 its.length c0):=by rw [World.cell?_alloc_lt _ _ ⟨P,6,none⟩ hlt];exact hv
 obtain ⟨v1,hv1',hrow1⟩:=HO1.out.row
 rw [hv1] at hv1'
 obtain rfl:=Option.some.inj hv1'
 have HR1:=hide hrow1
 have HV1:=hide hv1
 have HW1:Hid (Wq 6 P w (w.alloc (.cells #[.int .i64 kd,.int .i64 0,.int .i64 0,.int .i64 0,.int .i64 0,.int .i64 0,.int .i64 lb] 70))):=Wq.below hlt (bel_a _ _)
 have hzz:=item_cells w (markI kd lb) 70
 have HZZ:=hide hzz
 clear hrow hoth hfz hrow1 hv1 hzz
 go_enter Tryz.func16,Tryz.ntmps16
 go_wp2_with (at_builtin;refine wpList_appT rfl _ _ rfl (P+1) _ its (markI kd lb) rfl HR1.out w.heap.size 1 rfl HZZ.out hl (by simp;omega) ?_)
 intro v2 w2 hown2 hg2 hf2
 obtain ⟨f2,c2,hO2,hW2⟩:=em_step HO1.out HV1.out hown2 hg2 (fun k hk=>by rw [World.size_alloc];exact hf2 k hk)
 obtain ⟨va,vn,vc,rfl⟩ : ∃va vn vc,v2 = .slice va vn vc:=by
  rcases hown2.2 with ⟨rfl,_⟩ | ⟨g,cap,cur,rfl,_⟩
  ·exact ⟨_,_,_,rfl⟩
  ·exact ⟨_,_,_,rfl⟩
 have HR:Hid (Em 70 6 7 P (w2.setCell ⟨P,6,none⟩ (.slice va vn vc)) (its++[markI kd lb]) c/\Wq 6 P w (w2.setCell ⟨P,6,none⟩ (.slice va vn vc))):=⟨hO2,HW1.out.trans hW2⟩
 clear hown2 hg2 hf2 hO2 hW2
 go_wp2_with fail
 exact bodyPost_end (v:=.tuple #[]) (by simp [results,Tryz.results16,go_sem]) rfl ⟨⟨_,rfl⟩,HR.out⟩
theorem branG_any (P:Nat) (its:List It) (c:Nat->Value) (op rg lb:Int) (w:World) (hO:Em 70 6 7 P w its c) (hl:its.length<=9000000) :
  Calls Tryz.prog 96 #[.pointer (some ⟨P,0,none⟩),.int .i64 op,.int .i64 rg,.int .i64 lb] w fun e w'=>(∃u,e = .returned u)/\Em 70 6 7 P w' (its++[branI op rg lb]) c/\Wq 6 P w w':=by
 have HO:Hid (Em 70 6 7 P w its c):=hO
 obtain ⟨hlt,hfz,⟨v,hv,hrow⟩,hoth⟩:=hO
 obtain ⟨a0,c0,hvs⟩ : ∃a0 c0,v = .slice a0 its.length c0:=by
  rcases hrow.2 with ⟨rfl,hz⟩ | ⟨g,cap,cur,rfl,_⟩
  ·exact ⟨none,0,by rw [hz]⟩
  ·exact ⟨_,cap,rfl⟩
 subst hvs
 have HO1:Hid (Em 70 6 7 P (w.alloc (.cells #[.int .i64 3,.int .i64 op,.int .i64 0,.int .i64 rg,.int .i64 0,.int .i64 0,.int .i64 lb] 70)) its c):=HO.out.below (bel_a _ _)
 have hv1:(w.alloc (.cells #[.int .i64 3,.int .i64 op,.int .i64 0,.int .i64 rg,.int .i64 0,.int .i64 0,.int .i64 lb] 70)).cell? ⟨P,6,none⟩=some (.slice a0 its.length c0):=by rw [World.cell?_alloc_lt _ _ ⟨P,6,none⟩ hlt];exact hv
 obtain ⟨v1,hv1',hrow1⟩:=HO1.out.row
 rw [hv1] at hv1'
 obtain rfl:=Option.some.inj hv1'
 have HR1:=hide hrow1
 have HV1:=hide hv1
 have HW1:Hid (Wq 6 P w (w.alloc (.cells #[.int .i64 3,.int .i64 op,.int .i64 0,.int .i64 rg,.int .i64 0,.int .i64 0,.int .i64 lb] 70))):=Wq.below hlt (bel_a _ _)
 have hzz:=item_cells w (branI op rg lb) 70
 have HZZ:=hide hzz
 clear hrow hoth hfz hrow1 hv1 hzz
 go_enter Tryz.func96,Tryz.ntmps96
 go_wp2_with (at_builtin;refine wpList_appT rfl _ _ rfl (P+1) _ its (branI op rg lb) rfl HR1.out w.heap.size 1 rfl HZZ.out hl (by simp;omega) ?_)
 intro v2 w2 hown2 hg2 hf2
 obtain ⟨f2,c2,hO2,hW2⟩:=em_step HO1.out HV1.out hown2 hg2 (fun k hk=>by rw [World.size_alloc];exact hf2 k hk)
 obtain ⟨va,vn,vc,rfl⟩ : ∃va vn vc,v2 = .slice va vn vc:=by
  rcases hown2.2 with ⟨rfl,_⟩ | ⟨g,cap,cur,rfl,_⟩
  ·exact ⟨_,_,_,rfl⟩
  ·exact ⟨_,_,_,rfl⟩
 have HR:Hid (Em 70 6 7 P (w2.setCell ⟨P,6,none⟩ (.slice va vn vc)) (its++[branI op rg lb]) c/\Wq 6 P w (w2.setCell ⟨P,6,none⟩ (.slice va vn vc))):=⟨hO2,HW1.out.trans hW2⟩
 clear hown2 hg2 hf2 hO2 hW2
 go_wp2_with fail
 exact bodyPost_end (v:=.tuple #[]) (by simp [results,Tryz.results96,go_sem]) rfl ⟨⟨_,rfl⟩,HR.out⟩
theorem markE_any (P:Nat) (its:List It) (c:Nat->Value) (kd lb:Int) (w:World) (hO:Em 70 5 8 P w its c) (hl:its.length<=9000000) :
  Calls Tryz.prog 25 #[.pointer (some ⟨P,0,none⟩),.int .i64 kd,.int .i64 lb] w fun e w'=>(∃u,e = .returned u)/\Em 70 5 8 P w' (its++[markI kd lb]) c/\Wq 5 P w w':=by
 have HO:Hid (Em 70 5 8 P w its c):=hO
 obtain ⟨hlt,hfz,⟨v,hv,hrow⟩,hoth⟩:=hO
 obtain ⟨a0,c0,hvs⟩ : ∃a0 c0,v = .slice a0 its.length c0:=by
  rcases hrow.2 with ⟨rfl,hz⟩ | ⟨g,cap,cur,rfl,_⟩
  ·exact ⟨none,0,by rw [hz]⟩
  ·exact ⟨_,cap,rfl⟩
 subst hvs
 have HO1:Hid (Em 70 5 8 P (w.alloc (.cells #[.int .i64 kd,.int .i64 0,.int .i64 0,.int .i64 0,.int .i64 0,.int .i64 0,.int .i64 lb] 70)) its c):=HO.out.below (bel_a _ _)
 have hv1:(w.alloc (.cells #[.int .i64 kd,.int .i64 0,.int .i64 0,.int .i64 0,.int .i64 0,.int .i64 0,.int .i64 lb] 70)).cell? ⟨P,5,none⟩=some (.slice a0 its.length c0):=by rw [World.cell?_alloc_lt _ _ ⟨P,5,none⟩ hlt];exact hv
 obtain ⟨v1,hv1',hrow1⟩:=HO1.out.row
 rw [hv1] at hv1'
 obtain rfl:=Option.some.inj hv1'
 have HR1:=hide hrow1
 have HV1:=hide hv1
 have HW1:Hid (Wq 5 P w (w.alloc (.cells #[.int .i64 kd,.int .i64 0,.int .i64 0,.int .i64 0,.int .i64 0,.int .i64 0,.int .i64 lb] 70))):=Wq.below hlt (bel_a _ _)
 have hzz:=item_cells w (markI kd lb) 70
 have HZZ:=hide hzz
 clear hrow hoth hfz hrow1 hv1 hzz
 go_enter Tryz.func25,Tryz.ntmps25
 go_wp2_with (at_builtin;refine wpList_appT rfl _ _ rfl (P+1) _ its (markI kd lb) rfl HR1.out w.heap.size 1 rfl HZZ.out hl (by simp;omega) ?_)
 intro v2 w2 hown2 hg2 hf2
 obtain ⟨f2,c2,hO2,hW2⟩:=em_step HO1.out HV1.out hown2 hg2 (fun k hk=>by rw [World.size_alloc];exact hf2 k hk)
 obtain ⟨va,vn,vc,rfl⟩ : ∃va vn vc,v2 = .slice va vn vc:=by
  rcases hown2.2 with ⟨rfl,_⟩ | ⟨g,cap,cur,rfl,_⟩
  ·exact ⟨_,_,_,rfl⟩
  ·exact ⟨_,_,_,rfl⟩
 have HR:Hid (Em 70 5 8 P (w2.setCell ⟨P,5,none⟩ (.slice va vn vc)) (its++[markI kd lb]) c/\Wq 5 P w (w2.setCell ⟨P,5,none⟩ (.slice va vn vc))):=⟨hO2,HW1.out.trans hW2⟩
 clear hown2 hg2 hf2 hO2 hW2
 go_wp2_with fail
 exact bodyPost_end (v:=.tuple #[]) (by simp [results,Tryz.results25,go_sem]) rfl ⟨⟨_,rfl⟩,HR.out⟩
theorem branE_any (P:Nat) (its:List It) (c:Nat->Value) (op rg lb:Int) (w:World) (hO:Em 70 5 8 P w its c) (hl:its.length<=9000000) :
  Calls Tryz.prog 163 #[.pointer (some ⟨P,0,none⟩),.int .i64 op,.int .i64 rg,.int .i64 lb] w fun e w'=>(∃u,e = .returned u)/\Em 70 5 8 P w' (its++[branI op rg lb]) c/\Wq 5 P w w':=by
 have HO:Hid (Em 70 5 8 P w its c):=hO
 obtain ⟨hlt,hfz,⟨v,hv,hrow⟩,hoth⟩:=hO
 obtain ⟨a0,c0,hvs⟩ : ∃a0 c0,v = .slice a0 its.length c0:=by
  rcases hrow.2 with ⟨rfl,hz⟩ | ⟨g,cap,cur,rfl,_⟩
  ·exact ⟨none,0,by rw [hz]⟩
  ·exact ⟨_,cap,rfl⟩
 subst hvs
 have HO1:Hid (Em 70 5 8 P (w.alloc (.cells #[.int .i64 3,.int .i64 op,.int .i64 0,.int .i64 rg,.int .i64 0,.int .i64 0,.int .i64 lb] 70)) its c):=HO.out.below (bel_a _ _)
 have hv1:(w.alloc (.cells #[.int .i64 3,.int .i64 op,.int .i64 0,.int .i64 rg,.int .i64 0,.int .i64 0,.int .i64 lb] 70)).cell? ⟨P,5,none⟩=some (.slice a0 its.length c0):=by rw [World.cell?_alloc_lt _ _ ⟨P,5,none⟩ hlt];exact hv
 obtain ⟨v1,hv1',hrow1⟩:=HO1.out.row
 rw [hv1] at hv1'
 obtain rfl:=Option.some.inj hv1'
 have HR1:=hide hrow1
 have HV1:=hide hv1
 have HW1:Hid (Wq 5 P w (w.alloc (.cells #[.int .i64 3,.int .i64 op,.int .i64 0,.int .i64 rg,.int .i64 0,.int .i64 0,.int .i64 lb] 70))):=Wq.below hlt (bel_a _ _)
 have hzz:=item_cells w (branI op rg lb) 70
 have HZZ:=hide hzz
 clear hrow hoth hfz hrow1 hv1 hzz
 go_enter Tryz.func163,Tryz.ntmps163
 go_wp2_with (at_builtin;refine wpList_appT rfl _ _ rfl (P+1) _ its (branI op rg lb) rfl HR1.out w.heap.size 1 rfl HZZ.out hl (by simp;omega) ?_)
 intro v2 w2 hown2 hg2 hf2
 obtain ⟨f2,c2,hO2,hW2⟩:=em_step HO1.out HV1.out hown2 hg2 (fun k hk=>by rw [World.size_alloc];exact hf2 k hk)
 obtain ⟨va,vn,vc,rfl⟩ : ∃va vn vc,v2 = .slice va vn vc:=by
  rcases hown2.2 with ⟨rfl,_⟩ | ⟨g,cap,cur,rfl,_⟩
  ·exact ⟨_,_,_,rfl⟩
  ·exact ⟨_,_,_,rfl⟩
 have HR:Hid (Em 70 5 8 P (w2.setCell ⟨P,5,none⟩ (.slice va vn vc)) (its++[branI op rg lb]) c/\Wq 5 P w (w2.setCell ⟨P,5,none⟩ (.slice va vn vc))):=⟨hO2,HW1.out.trans hW2⟩
 clear hown2 hg2 hf2 hO2 hW2
 go_wp2_with fail
 exact bodyPost_end (v:=.tuple #[]) (by simp [results,Tryz.results163,go_sem]) rfl ⟨⟨_,rfl⟩,HR.out⟩
theorem labelG_any (P:Nat) (its:List It) (c:Nat->Value) (l:Int) (w:World) (hO:Em 70 6 7 P w its c) (hc:c 5 = .int .i64 l) (hl:0<=l/\l<=1000000000) :
  Calls Tryz.prog 39 #[.pointer (some ⟨P,0,none⟩)] w fun e w'=>e = .returned (.int .i64 l)/\Em 70 6 7 P w' its (fun j=>if j=5 then .int .i64 (l+1) else c j)/\Wq 6 P w w':=by
 have h5:=hO.oth 5 (by decide) (by decide)
 rw [hc] at h5
 have hf:=hO.fz 5
 have HR:Hid (Em 70 6 7 P (w.setCell ⟨P,5,none⟩ (.int .i64 (l+1))) its (fun j=>if j=5 then .int .i64 (l+1) else c j)/\Wq 6 P w (w.setCell ⟨P,5,none⟩ (.int .i64 (l+1)))):=em_set hO 5 (by decide) (by decide) _
 have h5':(w.setCell ⟨P,5,none⟩ (.int .i64 (l+1))).cell? ⟨P,5,none⟩=some (.int .i64 (l+1)):=World.cell?_setCell_same _ _ _ h5
 have k1:IntKind.i64.wrap (l+1)=l+1:=by simp [IntKind.wrap,IntKind.bits,IntKind.signed];omega
 have k2:IntKind.i64.wrap (l+1-1)=l:=by simp [IntKind.wrap,IntKind.bits,IntKind.signed];omega
 clear hO hc
 go_enter Tryz.func39,Tryz.ntmps39
 go_wp2_with fail
 go_ret
 exact ⟨by simp,HR.out⟩
theorem labelE_any (P:Nat) (its:List It) (c:Nat->Value) (l:Int) (w:World) (hO:Em 70 5 8 P w its c) (hc:c 6 = .int .i64 l) (hl:0<=l/\l<=1000000000) :
  Calls Tryz.prog 50 #[.pointer (some ⟨P,0,none⟩)] w fun e w'=>e = .returned (.int .i64 l)/\Em 70 5 8 P w' its (fun j=>if j=6 then .int .i64 (l+1) else c j)/\Wq 5 P w w':=by
 have h5:=hO.oth 6 (by decide) (by decide)
 rw [hc] at h5
 have hf:=hO.fz 6
 have HR:Hid (Em 70 5 8 P (w.setCell ⟨P,6,none⟩ (.int .i64 (l+1))) its (fun j=>if j=6 then .int .i64 (l+1) else c j)/\Wq 5 P w (w.setCell ⟨P,6,none⟩ (.int .i64 (l+1)))):=em_set hO 6 (by decide) (by decide) _
 have h5':(w.setCell ⟨P,6,none⟩ (.int .i64 (l+1))).cell? ⟨P,6,none⟩=some (.int .i64 (l+1)):=World.cell?_setCell_same _ _ _ h5
 have k1:IntKind.i64.wrap (l+1)=l+1:=by simp [IntKind.wrap,IntKind.bits,IntKind.signed];omega
 have k2:IntKind.i64.wrap (l+1-1)=l:=by simp [IntKind.wrap,IntKind.bits,IntKind.signed];omega
 clear hO hc
 go_enter Tryz.func50,Tryz.ntmps50
 go_wp2_with fail
 go_ret
 exact ⟨by simp,HR.out⟩
theorem step_appT {w:World} {ops:Array Oper} {o:Oper} {a:Act} {K:Act->World->Prop} {Q:Exit->Act->World->Prop} {E:Prop} (hgd:o.guard=none) (s x:Operand)
  (ho:o.op = .call {callee:=.builtin .append,args:=#[s,x],argTypes:=#[27,27]})
  (B:Nat) (v:Value) (its:List It) (it:It) (hs:a.eval s=v) (hown:w.ownsRow B 70 7 v its.length (flatI its)) (b c:Nat) (hx:a.eval x = .slice (some ⟨b,0,none⟩) 1 c) (hz : ∀j u,(flatI [it])[j]? = some u->w.cell? ((⟨b,0,none⟩:Addr).add j)=some u)
  (hm:its.length<=9000000) (hbase:B<=w.heap.size)
  (h : ∀v' w',w'.ownsRow B 70 7 v' (its.length + [it].length) (flatI its++flatI [it])->w.grownBy w' v.ownBlock->(∀k,v'.ownBlock=some k->v.ownBlock=some k∨w.heap.size<=k)->K (a.put o.dst v') w') :
  if Region.wanted o (yielded ops a.tmps)=true then Oper.wp Tryz.prog o a w K Q else E:=by
 have hw:Region.wanted o (yielded ops a.tmps)=true:=by simp [Region.wanted,hgd]
 rw [if_pos hw]
 obtain ⟨i1,hj,hy0,hy1,hy2⟩:=info_parts info_item
 obtain ⟨v',w',hr,h2,h3,h4⟩:=app_freshG (P:=Tryz.prog) (w:=w) B 27 o.type 70 i1 _ 7 56 Tryz.underlying27 hj hy0 hy1 hy2 rfl (by decide) v its.length (flatI its) hown ⟨b,0,none⟩ 1 c (flatI [it]) (flatI_len [it]) hz (fun u hu=>cellsI_one it u (by rw [flatI_single] at hu;exact hu)) o_ (by decide) hbase
 unfold Oper.wp execOp
 simp only [ho,resolve,invoke,builtin,Sem.run_bind,Sem.run_pure,Result.andThen_ok,List.map_toArray,List.map_cons,List.map_nil,hs,hx,hr]
 exact h v' w' h2 h3 h4
def CB (k:Nat) (g:Cod):Prop:=∀d l,(g d l).1.length<=24*k/\l<=(g d l).2/\(g d l).2<=l+k
theorem readL_len (E:GEnv) (d sp:Int):(readL E d sp).length<=1:=by unfold readL;split <;> simp
theorem writeL_len (E:GEnv) (d:Int):(writeL E d).length<=1:=by unfold writeL;split <;> simp
theorem loadL_len (r v:Int):(loadL r v).length<=2:=by unfold loadL;split <;> (try split) <;> simp
theorem answerL_len (E:GEnv) (d:Int):(answerL E d).length=1:=by unfold answerL;split <;> simp
theorem unL_len (op r a:Int):(unL op r a).length=1:=by unfold unL;split <;> (try split) <;> simp
theorem binL_len (op r a b:Int):(binL op r a b).length<=2:=by unfold binL;split <;> (try split) <;> (try split) <;> (try split) <;> (try split) <;> (try split) <;> simp
theorem varL_len (E:GEnv) (s:ByteArray) (r:Int):(varL E s r).length<=3:=by
 unfold varL
 split
 ·simp
 ·have:=loadL_len 31 (E.glob s);simp;omega
theorem keepL_len (E:GEnv) : ∀j,(keepL E j).length=j
 | 0=>rfl
 | j+1=>by simp [keepL,keepL_len E j]
theorem backL_len (E:GEnv) : ∀j,(backL E j).length=j
 | 0=>rfl
 | j+1=>by simp [backL,backL_len E j]
theorem passL_len (E:GEnv) (d:Int) : ∀j,(passL E d j).length=j
 | 0=>rfl
 | j+1=>by simp [passL,passL_len E d j]
theorem args_cb {G:Nat->Cod} {F:Nat->List Nd} {d:Int} : ∀(A:Nat) (l:Int),(∀i,i<A->CB (F i).length (G i))->(argsC G d A l).1.length<=24*(joinF F A).length/\l<=(argsC G d A l).2/\(argsC G d A l).2<=l+(joinF F A).length
 | 0,l,_=>by simp [argsC,joinF]
 | A+1,l,h=>by
  obtain ⟨h1,h2,h3⟩:=args_cb (d:=d) A l (fun i hi=>h i o_)
  obtain ⟨g1,g2,g3⟩:=h A o_ (d+A) (argsC G d A l).2
  simp only [argsC,joinF,l_a]
  refine ⟨?_,?_,?_⟩ <;> omega
theorem joinF_one (F:Nat->List Nd):(joinF F 1).length=(F 0).length:=by simp [joinF]
theorem joinF_two (F:Nat->List Nd):(joinF F 2).length=(F 0).length+(F 1).length:=by simp [joinF]
theorem joinF_at (F:Nat->List Nd) {i A:Nat} (h:i<A):(joinF F i).length+(F i).length<=(joinF F A).length:=by
 induction A with
 | zero=>omega
 | succ A ih=>
  by_cases e:i=A
  ·subst e;simp [joinF]
  ·have:=ih o_;simp [joinF];omega
theorem gen_cb (E:GEnv) {n:Nd} {A:Nat} {F:Nat->List Nd} {G:Nat->Cod} (hn:nodeB n=true) (hA:arity n=A) (h : ∀i,i<A->CB (F i).length (G i)):CB ((joinF F A).length+1) (genN E n A G):=by
 intro d l
 have hk:=kind_good hn
 have h6:=arity_good hn
 have r1:=readL_len E d 30
 have r2:=readL_len E (d+1) 31
 have r3:=writeL_len E d
 have r4:=answerL_len E d
 unfold genN
 by_cases h1:n.kind=1
 ·have:=loadL_len (regI d 30) n.val
  simp only [h1,if_true,l_a]
  refine ⟨?_,?_,?_⟩ <;> omega
 rw [if_neg h1]
 by_cases h2:n.kind=2
 ·have:=varL_len E n.name (regI d 30)
  simp only [h2,if_true,l_a]
  refine ⟨?_,?_,?_⟩ <;> omega
 rw [if_neg h2]
 by_cases h3:n.kind=3
 ·have e:A=1:=by simp [arity,h3] at hA;omega
  subst e
  rw [joinF_one]
  have:=loadL_len 31 (E.glob n.name)
  obtain ⟨g1,g2,g3⟩:=h 0 o_ d l
  simp only [h3,if_true,l_a,l_c,l_n]
  refine ⟨?_,?_,?_⟩ <;> omega
 rw [if_neg h3]
 by_cases h4:n.kind=4
 ·rw [if_pos h4]
  obtain ⟨g1,g2,g3⟩:=args_cb (d:=d) A l h
  simp only [callC,l_a,l_c,l_n,keepL_len,backL_len,passL_len]
  refine ⟨?_,?_,?_⟩ <;> omega
 rw [if_neg h4]
 by_cases h5:n.kind=5
 ·simp only [h5,if_true,l_a,l_c,l_n]
  refine ⟨?_,?_,?_⟩ <;> omega
 rw [if_neg h5]
 by_cases h66:n.kind=6
 ·have e:A=1:=by simp [arity,h66] at hA;omega
  subst e
  rw [joinF_one]
  have:=unL_len n.val (regI d 30) (regI d 30)
  obtain ⟨g1,g2,g3⟩:=h 0 o_ d l
  simp only [h66,if_true,l_a,l_c,l_n]
  refine ⟨?_,?_,?_⟩ <;> omega
 rw [if_neg h66]
 by_cases h7:n.kind=7
 ·have e:A=2:=by simp [arity,h7] at hA;omega
  subst e
  rw [joinF_two]
  have:=binL_len n.val (regI d 30) (regI d 30) (regI (d+1) 31)
  obtain ⟨g1,g2,g3⟩:=h 0 o_ d l
  obtain ⟨k1,k2,k3⟩:=h 1 o_ (d+1) (G 0 d l).2
  simp only [h7,if_true,l_a,l_c,l_n]
  refine ⟨?_,?_,?_⟩ <;> omega
 ·rw [if_neg h7]
  have e:A=2:=by
   have h89:n.kind=8∨n.kind=9:=by omega
   rcases h89 with hh | hh <;> (simp [arity,hh] at hA;omega)
  subst e
  rw [joinF_two]
  obtain ⟨g1,g2,g3⟩:=h 0 o_ d (l+1)
  obtain ⟨k1,k2,k3⟩:=h 1 o_ d (G 0 d (l+1)).2
  simp only [choiceC,l_a,l_c,l_n]
  refine ⟨?_,?_,?_⟩ <;> omega
theorem cut_len {e:List Nd} {A:Nat} {b:Nat->Nat} (hc:Cut e A b):(joinF (kid e b) A).length+1=e.length:=by
 have h:=congrArg List.length (cut_join hc)
 simpa using h
theorem r_l (E:GEnv) (d:Int):(readL E d 30).length<=1/\(readL E (d+1) 31).length<=1/\(writeL E d).length<=1/\(answerL E d).length=1:=⟨readL_len E d 30,readL_len E (d+1) 31,writeL_len E d,answerL_len E d⟩
def lastKind (e:List Nd):Int:=match e[e.length-1]? with | some n=>n.kind | none=>0
def stmtB (s:St):Bool:=
 decide (1<=s.kind/\s.kind<=8) && (if s.kind<=3 then nameB s.name else s.name.toList == []) && oneB s.e && (if s.kind=3 then oneB s.f else s.f.length == 0) && (decide (s.kind≠8) || lastKind s.e == 4) && (decide (s.kind=4∨s.kind=5) || s.thn == 0) && (decide (s.kind=4) || s.els == 0)
theorem oneB_pos {l:List Nd} (h:oneB l=true):0<l.length:=by
 cases l with
 | nil=>simp [oneB,wholeTo] at h
 | cons n r=>simp
def fitN:Nat->List St->Bool
 | _,[]=>true
 | 0,_::_=>false
 | n+1,s::r=>decide (0<=s.thn/\s.thn<=r.length/\0<=s.els/\s.els<=r.length-s.thn) && (fitN n (r.take s.thn.toNat) && (fitN n ((r.take (s.thn.toNat+s.els.toNat)).drop s.thn.toNat) && fitN n (r.drop (s.thn.toNat+s.els.toNat))))
def fitB (l:List St):Bool:=fitN l.length l
theorem fitN_any (n m:Nat) (l:List St) (hn:l.length<=n) (hm:l.length<=m):fitN n l=fitN m l:=by
 induction n generalizing m l with
 | zero=>
  have:l = []:=List.eq_nil_of_length_eq_zero o_
  subst this
  cases m <;> rfl
 | succ n ih=>
  cases l with
  | nil=>cases m <;> rfl
  | cons s r=>
   cases m with
   | zero=>simp at hm
   | succ m=>
    simp only [l_c] at hn hm
    simp only [fitN]
    rw [ih m (r.take s.thn.toNat) (by simp;omega) (by simp;omega),ih m ((r.take (s.thn.toNat+s.els.toNat)).drop s.thn.toNat) (by simp;omega) (by simp;omega),ih m (r.drop (s.thn.toNat+s.els.toNat)) (by simp;omega) (by simp;omega)]
theorem fitB_cons (s:St) (r:List St):fitB (s::r)=(decide (0<=s.thn/\s.thn<=r.length/\0<=s.els/\s.els<=r.length-s.thn) && (fitB (r.take s.thn.toNat) && (fitB ((r.take (s.thn.toNat+s.els.toNat)).drop s.thn.toNat) && fitB (r.drop (s.thn.toNat+s.els.toNat))))):=by
 have h:fitB (s::r)=fitN (r.length+1) (s::r):=rfl
 rw [h]
 simp only [fitN]
 rw [fitN_any r.length _ (r.take s.thn.toNat) (by simp;omega) (Nat.le_refl _),fitN_any r.length _ ((r.take (s.thn.toNat+s.els.toNat)).drop s.thn.toNat) (by simp;omega) (Nat.le_refl _),fitN_any r.length _ (r.drop (s.thn.toNat+s.els.toNat)) (by simp) (Nat.le_refl _)]
 rfl
theorem fitB_all (n:Nat) : ∀l:List St,l.length<=n->fitB l=true->∀s∈l,0<=s.thn/\0<=s.els:=by
 induction n with
 | zero=>
  intro l hl _ s hs
  have:l = []:=List.eq_nil_of_length_eq_zero o_
  subst this
  cases hs
 | succ n ih=>
  intro l hl h s hs
  cases l with
  | nil=>cases hs
  | cons t r=>
   simp only [l_c] at hl
   rw [fitB_cons] at h
   simp only [Bool.and_eq_true,decide_eq_true_eq] at h
   obtain ⟨h0,h1,h2,h3⟩:=h
   rcases List.mem_cons.1 hs with rfl | hs
   ·exact ⟨h0.1,h0.2.2.1⟩
   ·have hr:r=r.take t.thn.toNat++((r.take (t.thn.toNat+t.els.toNat)).drop t.thn.toNat++r.drop (t.thn.toNat+t.els.toNat)):=by
     rw [<-List.append_assoc]
     have e:r.take t.thn.toNat++(r.take (t.thn.toNat+t.els.toNat)).drop t.thn.toNat=r.take (t.thn.toNat+t.els.toNat):=by
      have:=List.take_append_drop t.thn.toNat (r.take (t.thn.toNat+t.els.toNat))
      rwa [List.take_take,Nat.min_eq_left o_] at this
     rw [e,List.take_append_drop]
    rw [hr] at hs
    rcases List.mem_append.1 hs with hs | hs
    ·exact ih _ (by simp;omega) h1 s hs
    ·rcases List.mem_append.1 hs with hs | hs
     ·exact ih _ (by simp;omega) h2 s hs
     ·exact ih _ (by simp;omega) h3 s hs
def nodeSum:List St->Nat
 | []=>0
 | s::r=>s.e.length+s.f.length+nodeSum r
theorem nodeSum_append (a b:List St):nodeSum (a++b)=nodeSum a+nodeSum b:=by
 induction a with
 | nil=>simp [nodeSum]
 | cons s r ih=>simp [nodeSum,ih];omega
theorem nodeSum_step (l:List St) (k:Nat) (h:k<l.length):nodeSum (l.take (k+1))=nodeSum (l.take k)+l[k].e.length+l[k].f.length:=by
 rw [take_succ l k h,nodeSum_append];simp [nodeSum];omega
theorem nodeSum_le (l:List St) (k:Nat):nodeSum (l.take k)<=nodeSum l:=by
 have:=nodeSum_append (l.take k) (l.drop k)
 rw [List.take_append_drop] at this
 omega
def stmtsB (p:St->Bool) (l:List St):Bool:=decide (nodeSum l<=2000) && l.all p
theorem stmtsB_sum {p:St->Bool} {l:List St} {k:Nat} (h:2000<nodeSum (l.take k)):stmtsB p l=false:=by
 have:=nodeSum_le l k
 simp only [stmtsB,decide_eq_false (show ¬nodeSum l<=2000 by omega),Bool.false_and]
theorem stmtsB_bad {p:St->Bool} {l:List St} {k:Nat} (hk:k<l.length) (h:p l[k]=false):stmtsB p l=false:=by
 have:l.all p=false:=by
  rw [List.all_eq_false]
  exact ⟨l[k],List.getElem_mem hk,by simp [h]⟩
 simp [stmtsB,this]
theorem stmtsB_ok {p:St->Bool} {l:List St} (h1:nodeSum l<=2000) (h2 : ∀s∈l,p s=true):stmtsB p l=true:=by
 have:l.all p=true:=List.all_eq_true.2 h2
 simp [stmtsB,this,h1]
theorem all_bad {p:ByteArray->Bool} {l:List ByteArray} {k:Nat} (hk:k<l.length) (h:p l[k]=false):l.all p=false:=by
 rw [List.all_eq_false]
 exact ⟨l[k],List.getElem_mem hk,by simp [h]⟩
def funcB (f:Fu):Bool:=nameB f.name && (decide (f.params.length<=6) && (decide (f.body.length<=500) && (f.params.all nameB && (stmtsB stmtB f.body && fitB f.body))))
def gstmtB (s:St):Bool:=stmtB s && decide (0<=s.thn/\0<=s.els)
theorem gstmts_fit (l:List St):(stmtsB gstmtB l && fitB l)=(stmtsB stmtB l && fitB l):=by
 cases h:fitB l
 ·simp
 ·have hn:=fitB_all l.length l (Nat.le_refl _) h
  have:l.all gstmtB=l.all stmtB:=by
   apply Bool.eq_iff_iff.2
   rw [List.all_eq_true,List.all_eq_true]
   constructor
   ·intro h s hs
    have:=h s hs
    simp only [gstmtB,Bool.and_eq_true] at this
    exact this.1
   ·intro h s hs
    simp only [gstmtB,Bool.and_eq_true,decide_eq_true_eq]
    exact ⟨h s hs,hn s hs⟩
  simp only [stmtsB,this]
theorem gstmts_nonneg {l:List St} (h : ∀s∈l,gstmtB s=true) : ∀s∈l,0<=s.thn/\0<=s.els:=by
 intro s hs
 have:=h s hs
 simp only [gstmtB,Bool.and_eq_true,decide_eq_true_eq] at this
 exact this.2
def globB (g:Gl):Bool:=nameB g.name && decide (0<=g.size/\g.size<=4000)
def treeB (t:Tr):Bool:=decide (t.globals.length<=50) && (decide (t.funcs.length<=50) && (t.globals.all globB && t.funcs.all funcB))
theorem allG_bad {l:List Gl} {k:Nat} (hk:k<l.length) (h:globB l[k]=false):l.all globB=false:=by
 rw [List.all_eq_false]
 exact ⟨l[k],List.getElem_mem hk,by simp [h]⟩
theorem allF_bad {l:List Fu} {k:Nat} (hk:k<l.length) (h:funcB l[k]=false):l.all funcB=false:=by
 rw [List.all_eq_false]
 exact ⟨l[k],List.getElem_mem hk,by simp [h]⟩
def smallS (s:St):Prop:=s.e.length<=1048576/\s.f.length<=1048576
def smallF (f:Fu):Prop:=f.params.length<=1048576/\f.body.length<=1048576/\∀s∈f.body,smallS s
def smallT (t:Tr):Prop:=t.globals.length<=1048576/\t.funcs.length<=1048576/\∀f∈t.funcs,smallF f
end Go.Proofs.YtnpidjamplmgjaaGreatDoor
