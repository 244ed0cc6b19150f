import Derived.Test.YtngnoopnloojjaaGreatDoorQ37
import Derived.Deep.RegionLaw
namespace Go.Proofs.YtngnoopnloojjaaGreatDoor
open Go.Proofs.Tryz Go.RowKit
set_option linter.all false
set_option maxRecDepth 100000
set_option maxHeartbeats 0
variable[Inhabited Pick]
def CI{w:AT}{B t z:Nat}{v:BY}{n:Nat}{H:List BY}(h:w.ownsRow B t z v n H):∃va vn vc,v=.slice va vn vc:=by rcases h.2 with⟨rfl,_⟩|⟨g,Jb,Ja,rfl,_⟩;exact⟨_,_,_,rfl⟩;exact⟨_,_,_,rfl⟩
def qe(P:Nat)(its:List It)(c:Nat->BY)(op rd s1 s2 im:Int)(w:AT)(H:Em 214 5 8 P w its c)(hl:its.length<=9000000):
  Calls prog 139 #[pV P,.agg #[V op,V rd,V s1,V s2,V im]] w λe w'=>(∃u,e=rW u)/\Em 214 5 8 P w' (its++[aw op rd s1 s2 im]) c/\Wq 5 P w w':=by
 have Jh:=H.lt;have⟨v,I,Jf⟩:=H.row;obtain⟨a0,c0,Z⟩:∃a0 c0,v=.slice a0 its.length c0:=by rcases Jf.2 with⟨rfl,Y⟩|⟨g,O,Xe,rfl,_⟩;exact⟨none,0,by rw[Y]⟩;exact⟨_,O,rfl⟩
 subst Z;have⟨w0,Jb⟩:=q_ (w.alloc (.cells #[V op,V rd,V s1,V s2,V im] 84));have Jj:w0.heap.size=w.heap.size+1:=by rw[Jb];simp
 have Jg:Bl w w0:=by rw[Jb];exact r_.alloc n_ _
 have Jr:Bl w w0.drew:=Jg.drew;have Je:Bl w (w0.alloc (.cells #[V 1,V op,V rd,V s1,V s2,V im,V 0] 214)).drew:=(Jg.alloc Jg.size _).drew;have Ji:=H.below Je;have Jl:(w0.alloc (.cells #[V 1,V op,V rd,V s1,V s2,V im,V 0] 214)).drew.cell? ⟨P,5,none⟩=some (.slice a0 its.length c0):=(Je.cell (p:=⟨P,5,none⟩) Jh).trans I;have⟨v1,Jd,Jc⟩:=Ji.row;rw[Jl]at Jd;obtain rfl:=Option.some.inj Jd;have⟨i1,hj,Xc,Ju,Jv⟩:=info_parts mY;have Xf:w0.drew.heap.size=w.heap.size+1:=Jj;have Jq:∀j u,(cq [aw op rd s1 s2 im])[j]? =some u->(w0.alloc (.cells #[V 1,V op,V rd,V s1,V s2,V im,V 0] 214)).drew.cell? ((⟨w.heap.size+1,0,none⟩:Addr).add j)=some u:=by
  have:=pY w0 (aw op rd s1 s2 im) 214
  rw[Jj]at this;exact this
 have Jm:P+1<=(w0.alloc (.cells #[V 1,V op,V rd,V s1,V s2,V im,V 0] 214)).drew.heap.size:=Ft Je.size;have Jy:=ah Jc;have Js:=ah Jl;have J_:=ah Ji;have U:=ah Jq;have Jt:Hid (Wq 5 P w (w0.alloc (.cells #[V 1,V op,V rd,V s1,V s2,V im,V 0] 214)).drew):=Wq.below Jh Je;have Jz:=ah Jm;have Xd:Bo w0.drew P 5 (.slice a0 its.length c0):=(Jr.cell (p:=⟨P,5,none⟩) Jh).trans I;have e0:Bo w0.drew w.heap.size 0 (V op):=by show w0.cell? _=_;rw[Jb];simp
 have e1:Bo w0.drew w.heap.size 1 (V rd):=by show w0.cell? _=_;rw[Jb];simp
 have e2:Bo w0.drew w.heap.size 2 (V s1):=by show w0.cell? _=_;rw[Jb];simp
 have e3:Bo w0.drew w.heap.size 3 (V s2):=by show w0.cell? _=_;rw[Jb];simp
 have e4:Bo w0.drew w.heap.size 4 (V im):=by show w0.cell? _=_;rw[Jb];simp
 have Jw:=ah Jb;clear H Jf Ji Jc Jq Jg Jr Je Jb I Jm hj Xc Ju Jv Jj;go_in;go_wp2_with fail;rw[<-Jw.o];go_region_law ((refine Cm H4 _ _ H4 (P+1) (.slice a0 its.length c0) its (aw op rd s1 s2 im) H4 Jy.o (w.heap.size+1) 1 H4 U.o hl Jz.o ?_;intro J w2 Ja Jn Jp;have⟨f2,c2,Jo,Jk⟩:=Al J_.o Js.o Ja Jn Jp;have X:Hid (Em 214 5 8 P (w2.setCell ⟨P,5,none⟩ J) (its++[aw op rd s1 s2 im]) c/\Wq 5 P w (w2.setCell ⟨P,5,none⟩ J)):=⟨Jo,Jt.o.trans Jk⟩;obtain⟨va,vn,vc,rfl⟩:=CI Ja;clear Jo Jk Ja Jn Jp))
 all_goals exact bodyPost_end (v:=.tuple #[]) (by simp[results,results139,go_sem]) rfl ⟨⟨_,rfl⟩,X⟩
end Go.Proofs.YtngnoopnloojjaaGreatDoor
