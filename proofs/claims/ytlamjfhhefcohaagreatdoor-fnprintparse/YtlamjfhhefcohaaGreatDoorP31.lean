import Derived.Test.YtlamjfhhefcohaaGreatDoorP30
set_option linter.unusedSectionVars false
variable [Inhabited Go.Proofs.YtlamjfhhefcohaaGreatDoor.Pick]
namespace Go.Proofs.YtlamjfhhefcohaaGreatDoor
open Go.Proofs.Tryz
set_option linter.all false
set_option maxRecDepth 100000
set_option maxHeartbeats 16000000
section
open Go.RowKit
variable{B:Nat}{w w':World}{v:Value}{l:List St}
structure SQ (B:Nat) (w:World) (v:Value) (l:List St):Prop where
 ex:∃R:List SV,R.map SV.s=l/\dY 46 6 (fun k=>k<B) B w v R.length (bz R) (qN R)
theorem SQ.tcs{S:Nat->Prop}(h:SQ B w v l)(ht:am S w w')(hS:∀k,S k->k<B):SQ B w' v l:=by
 obtain⟨R,h1,h2⟩:=h.ex;exact⟨R,h1,h2.tcs (ht.mono hS) (fun k hk=>hk)⟩
theorem SQ.below(h:SQ B w v l)(hb:Below w.heap.size w w'):SQ B w' v l:=by
 obtain⟨R,h1,h2⟩:=h.ex;exact⟨R,h1,h2.below hb⟩
theorem SQ.shape(h:SQ B w v l):∃a c,v=.slice a l.length c:=by
 obtain⟨R,rfl,h2⟩:=h.ex;obtain⟨a,c,e,-⟩:=au h2.row;exact⟨a,c,by rw[List.length_map];exact e⟩
theorem SQ.rng(h:SQ B w v l):∀k,v.ownBlock=some k->B<=k/\k<w.heap.size:=by
 obtain⟨R,h1,h2⟩:=h.ex;exact fun k hk=>World.ownsRow.lt h2.row k hk
theorem nV(w:World)(B:Nat)(hB:B<=w.heap.size):SQ B (w.alloc (.cells #[] 46)) (.slice (some ⟨w.heap.size,0,none⟩) 0 0) []:=
 ⟨[],rfl,(xb w B hB).row⟩
theorem xp{ve vf:Value}{kd th el:Int}{nm:ByteArray}{e f:List Nd}(hB:B<=w.heap.size)(hE:∀W,am (fun k=>k<B) w W->ax W ve e)(hF:∀W,am (fun k=>k<B) w W->ax W vf f):
  SQ B (w.alloc (.cells #[.int .i64 kd,.string nm,ve,vf,.int .i64 th,.int .i64 el] 46)) (.slice (some ⟨w.heap.size,0,none⟩) 1 1) [⟨kd,nm,e,f,th,el⟩]:=by
 refine⟨[⟨⟨kd,nm,e,f,th,el⟩,ve,vf,[],[]⟩],rfl,World.ownsRow_lit w #[.int .i64 kd,.string nm,ve,vf,.int .i64 th,.int .i64 el] 1 hB (by decide) rfl,fun W hW x hx=>?_⟩;simp only[List.mem_singleton]at hx;subst hx;have ht:am (fun k=>k<B) w W:=((am.refl _ w).alloc _).next hW fun k hk=>by
  rcases hk with hk|hk
  ·exact .inl hk
  ·simp only[Value.ownBlock,Option.some.injEq]at hk;exact .inr (by omega)
 exact⟨hE W ht,hF W ht⟩
theorem qQ{w1:World}{B2:Nat}{u:Value}{l2:List St}(ty:TypeId)(h:SQ B w v l)(h2:SQ B2 w1 u l2)(ht:am (fun k=>k<B2) w1 w)(Je:B<=B2)(hB:B<=w.heap.size)(hm:l.length+l2.length<=1000000)(hv:∀k,v.ownBlock=some k->k<B2∨w1.heap.size<=k):
  ∃v' w',(Builtin.append_ #[41,41] ty #[v,u]).run prog w=.ok v' w'/\SQ B w' v' (l++l2)/\am (fun k=>v.ownBlock=some k) w w'/\∀k,v'.ownBlock=some k->v.ownBlock=some k∨w.heap.size<=k:=by
 obtain⟨i0,hi,Jb,Jd,Jc⟩:=info_parts gz;obtain⟨R,rfl,r1⟩:=h.ex;obtain⟨R2,rfl,q1⟩:=h2.ex;have q2:dY 46 6 (fun k=>k<B2) B2 w u R2.length (bz R2) (qN R2):=q1.tcs ht (fun k hk=>hk);rw[List.length_map,List.length_map]at hm;obtain⟨a,c,rfl,hn,hc⟩:=au q2.row;have Ja:∀W,am (fun k=>k<B∨v.ownBlock=some k) w W->qN R2 W:=fun W hW=>q1.st W ((ht.mono fun k hk=>.inl hk).next hW fun k hk=>by
  rcases hk with hk|hk
  ·exact .inl (.inl (by omega))
  ·rcases hv k hk with h|h
   ·exact .inl (.inl h)
   ·exact .inr h)
 obtain⟨v',w',p1,p2,p3⟩:=jB (Pg:=prog) (w:=w) (T:=46) (t:=41) (c:=c) (P2:=qN R2) ty underlying41 hi Jb Jd Jc rfl (by decide) r1 a hn (flatS_len R2) hc (iK R2 fun q hq=>⟨(q2.now q hq).1.cell1,(q2.now q hq).2.cell1⟩) Ja (by omega) (by decide) hB;refine⟨v',w',p1,⟨R++R2,by rw[List.map_append],⟨by rw[l_a,fv];exact p2.row,fun W hW x hx=>?_⟩⟩,p3⟩;rcases List.mem_append.1 hx with hx|hx
 ·exact(p2.st W hW).1 x hx
 ·exact(p2.st W hW).2 x hx
def pJ(G:GT)(w:World)(a:List St)(s':PS)(e:Ending)(w':World):Prop:=∃u,e=.returned u/\SQ w.heap.size w' u a/\aN G w' s'/\am (fun k=>k=G.P) w w'
def Cx(G:GT)(n:Nat):Prop:=∀(w:World) (s:PS) (a:List St) (s':PS),Pa G.T n .st s (.s a) s'->fJ a<=1000000->eu n s->aN G w s ->
 Calls prog 83 #[.pointer (some ⟨G.P,0,none⟩)] w (pJ G w a s')
def Dp(G:GT)(n:Nat):Prop:=∀(w:World) (s:PS) (a:List St) (s':PS),Pa G.T n .bl s (.s a) s'->fJ a<=1000000->eu n s->aN G w s ->
 Calls prog 53 #[.pointer (some ⟨G.P,0,none⟩)] w (pJ G w a s')
theorem aN.gr2{G:GT}{W:World}{z:PS}(h:aN G w z)(hP:G.P<W.heap.size)(hT:G.bT<W.heap.size)(ht:am (fun k=>k=G.P) W w)(hr:SQ W.heap.size w v l)(t:am (fun k=>v.ownBlock=some k) w w'):
  aN G w' z/\am (fun k=>k=G.P) W w':=by
 have hj:∀k,v.ownBlock=some k->W.heap.size<=k:=fun k hk=>(hr.rng k hk).1;exact⟨h.tcs t (fun e=>by have:=hj _ e;omega) (fun e=>by have:=hj _ e;omega),ht.next t (fun x hx=>.inr (hj x hx))⟩
theorem ei(l:List St):l.length<=fJ l:=by
 induction l with
 | nil=>exact n_
 | cons s l ih=>rw[szS_cons];simp only[l_c];omega
end
section
open Go.RowKit
variable{g len cap q K:Nat}{a:Option Addr}{S:Nat->Prop}{w0 w2:World}{G:Gn}{v:Value}{ss:List ByteArray}{nm:ByteArray}
theorem nW(w:World)(v:Value)(ss:List ByteArray)(nm:ByteArray)(h:Strs w v ss)(hl:ss.length<=100000)(ty:TypeId):
  ∃v1 w1 a2 n2 c2 w2,(Builtin.append_ #[40,40] ty #[.slice (some ⟨w.heap.size,0,none⟩) 0 0,v]).run prog (w.alloc (.cells #[] 9))=.ok v1 w1/\(Builtin.append_ #[40,40] ty #[v1,.slice (some ⟨w1.heap.size,0,none⟩) 1 1]).run prog (w1.alloc (.cells #[.string nm] 9))=.ok (.slice a2 n2 c2) w2/\w2.ownsRow w.heap.size 9 1 (.slice a2 n2 c2) (ss++[nm]).length ((ss++[nm]).map Value.string)/\Below w.heap.size w w2:=by
 obtain⟨i0,hi,Je,Jg,Jf⟩:=info_parts gA;have Ja:Bl w (w.alloc (.cells #[] 9)):=aD _ _;have h0:(w.alloc (.cells #[] 9)).ownsRow w.heap.size 9 1 (.slice (some ⟨w.heap.size,0,none⟩) 0 0) 0 []:=World.ownsRow_lit w #[] 0 n_ (by decide) rfl;obtain⟨a,c,rfl,hn,hc⟩:=(h.below Ja).src;obtain⟨v1,w1,r1,o1,g1,-⟩:=bS (P:=prog) (w:=w.alloc (.cells #[] 9)) w.heap.size 40 ty 9 i0 _ 1 16 underlying40 hi Je Jg Jf rfl (by decide) _ 0 [] h0 a ss.length c (ss.map Value.string) (fun e=>by rw[hn e];rfl) (by simp) hc (fun u hu=>by obtain⟨x,-,rfl⟩:=List.mem_map.1 hu;rfl) (by omega) (by decide) Ja.size;have Jd:Bl w w1:=Ja.grown g1 Ja.size (fun j hj=>(World.ownsRow.lt h0 j hj).1);have Jc:Bl w (w1.alloc (.cells #[.string nm] 9)):=Jd.alloc Jd.size _;have Jh:=ownB o1 ((Below.refl w1.heap.size w1).alloc n_ (.cells #[.string nm] 9));have Jb:(w1.alloc (.cells #[.string nm] 9)).ownsRow w1.heap.size 9 1 (.slice (some ⟨w1.heap.size,0,none⟩) 1 1) 1 [.string nm]:=World.ownsRow_lit w1 #[.string nm] 1 n_ (by decide) rfl;obtain⟨v2,w2,r2,o2,g2,-⟩:=bS (P:=prog) (w:=w1.alloc (.cells #[.string nm] 9)) w.heap.size 40 ty 9 i0 _ 1 16 underlying40 hi Je Jg Jf rfl (by decide) v1 _ _ Jh (some ⟨w1.heap.size,0,none⟩) 1 1 [.string nm] (fun e=>by cases e) rfl (fun ad had j u hu=>by cases had;exact World.ownsRow.cells Jb (g:=w1.heap.size) rfl j u hu) (fun u hu=>by simp at hu;subst hu;rfl) (by omega) (by decide) Jc.size;obtain⟨a2,c2,rfl,-⟩:=au o2;refine⟨v1,w1,a2,_,c2,w2,r1,r2,?_,Jc.grown g2 Jc.size (fun j hj=>(World.ownsRow.lt Jh j hj).1)⟩;have e1:(ss++[nm]).length=0+ss.length+1:=by simp
 have e2:(ss++[nm]).map Value.string=[]++ss.map Value.string++[.string nm]:=by simp
 rw[e1,e2];exact o2
theorem mN(w:World)(B:Nat)(hB:B<=w.heap.size)(k1 v1 k2 v2 k3 v3:Int)(s1 s2 s3:ByteArray):aF B (w.alloc (.cells #[.int .i64 k1,.int .i64 v1,.string s1,.int .i64 k2,.int .i64 v2,.string s2,.int .i64 k3,.int .i64 v3,.string s3] 48)) (.slice (some ⟨w.heap.size,0,none⟩) 3 3) [⟨k1,v1,s1⟩,⟨k2,v2,s2⟩,⟨k3,v3,s3⟩]:=
 World.ownsRow_lit w #[.int .i64 k1,.int .i64 v1,.string s1,.int .i64 k2,.int .i64 v2,.string s2,.int .i64 k3,.int .i64 v3,.string s3] 3 hB (by decide) rfl
theorem bI.three{k1 v1 k2 v2 k3 v3:Int}{s1 s2 s3:ByteArray}(h1:s1.size<=100000)(h2:s2.size<=100000)(h3:s3.size<=100000):bI [⟨k1,v1,s1⟩,⟨k2,v2,s2⟩,⟨k3,v3,s3⟩] 3:=
 (bI.one h1).app ((bI.one h2).app (bI.one h3))
theorem jY(h:GS g a len cap q S w0 G K)(hb:Below w0.heap.size w0 w2)(ho:w2.ownsRow w0.heap.size 9 1 v (ss++[nm]).length ((ss++[nm]).map Value.string))(hs:∀x∈ss,x.size<=100000)(hn:nm.size<=100000)(hl:ss.length+1<=K):GS g a len cap q S (w2.setCell ⟨q,2,none⟩ v) {G with vs:=v,ss:=ss++[nm]} K:=by
 have h2:=h.below hb;refine h2.set (h2.box.set2 _ _) (h2.ok.setS (fun W hW=>e_ (az ho hW h.lo.s)) (fun x hx=>?_) (by simpa using hl));rcases List.mem_append.1 hx with hx|hx
 ·exact hs x hx
 ·simp only[List.mem_singleton]at hx;subst hx;exact hn
theorem xq(h:GS g a len cap q S w0 G K)(hb:Below w0.heap.size w0 w2)(ho:w2.ownsRow w0.heap.size 9 1 v (ss++[nm]).length ((ss++[nm]).map Value.string))(hs:∀x∈ss,x.size<=100000)(hn:nm.size<=100000)(hl:ss.length+1<=K):GS g a len cap q S (w2.setCell ⟨q,3,none⟩ v) {G with vl:=v,ls:=ss++[nm]} K:=by
 have h2:=h.below hb;refine h2.set (h2.box.set3 _ _) (h2.ok.setL (fun W hW=>e_ (az ho hW h.lo.s)) (fun x hx=>?_) (by simpa using hl));rcases List.mem_append.1 hx with hx|hx
 ·exact hs x hx
 ·simp only[List.mem_singleton]at hx;subst hx;exact hn
end
section
section
variable{s s':PS}{x c:List UInt8}{nm:ByteArray}{i n A:Nat}{f m:Int}{a o e:List Nd}{ps:List Lm}{b:Nat->Nat}
variable{T:Nat->To}
def nx(i:Nat):PS:=⟨i,0,0,0⟩
def gt(s:PS)(k:Nat):PS:= {s with i:=s.i+k}
theorem gt_gt(s:PS)(a b:Nat):gt (gt s a) b=gt s (a+b):=by simp[gt,Nat.add_assoc]
theorem gt_i(s:PS)(k:Nat):(gt s k).i=s.i+k:=rfl
theorem ad_gt(s:PS):s.ad=gt s 1:=rfl
theorem cM(h:Dm T s s')(h4:s.er=4):s'.er=4:=by
 obtain⟨h1,h2⟩:=h (.inl (by omega));unfold kQ at h2;rw[if_neg (by omega:¬s.er=0)]at h2;by_cases h0:s'.er=0
 ·rw[if_pos h0]at h2;have:=congrArg Prod.fst h2
  simp at this;omega
 ·rw[if_neg h0]at h2;have:=congrArg Prod.fst h2
  simp at this;omega
theorem sv(h:s.er=0):aC T x s=aC T x (nx s.i):=by unfold aC nx;rw[h]
theorem DY(h:s.er=0):gi T s=gi T (nx s.i):=by
 unfold gi;congr 1
 funext o
 exact sv h
theorem DZ{p:Lm}(h:Tm (T s.i) p)(h0:s.er=0)(hk:p.k=1∨p.k=3):aC T x s=decide (p.x=x):=by
 have h2:=h.2.2 (by omega);have h3:yO (T s.i)=true:=by unfold yO;rw[h.1];simpa using hk
 unfold aC;rw[h0,h2,h3];by_cases e:p.x=x
 ·simp[e]
 ·have:tx p.x≠tx x:=fun h=>e (nf h)
  simp[e,this]
theorem bU(h:Tm (T s.i) (sy c))(h0:s.er=0):aC T x s=decide (c=x):=DZ h h0 (.inr rfl)
theorem ka(h:Tm (T s.i) (wd c))(h0:s.er=0):aC T x s=decide (c=x):=DZ h h0 (.inl rfl)
theorem sw{v:Int}(h:Tm (T s.i) (nu v)):aC T x s=false:=nU h.1
theorem kg(h:Tm (T s.i) (sy c))(h0:s.er=0):bA T c s=⟨s.i+1,s.op+1,0,s.pl⟩∨(bA T c s).er=4:=by
 have hi:aC T c s=true:=by rw[bU h h0];simp
 by_cases ho:s.op=30
 ·right
  unfold bA;dsimp only;rw[if_pos ⟨hi,ho⟩];refine cM (bQ c _) ?_;unfold h_;rw[if_pos h0];have:(T s.i).kind=3:=h.1
  simp[this]
 ·left
  unfold bA;dsimp only;rw[if_neg (fun h=>ho h.2)];unfold bq;rw[if_pos hi];simp[PS.ad,h0]
theorem kh(h:Tm (T s.i) (sy c))(h0:s.er=0):bq T c s=gt s 1:=by
 unfold bq;rw[if_pos (by rw[bU h h0];simp)];rfl
theorem D_(h:Tm (T s.i) (wd c))(h0:s.er=0):bq T c s=gt s 1:=by
 unfold bq;rw[if_pos (by rw[ka h h0];simp)];rfl
theorem mO(h:Tm (T s.i) (sy c))(h0:s.er=0):cO T c s=⟨s.i+1,s.op-1,0,s.pl⟩:=by
 unfold cO;rw[kh h h0];simp[gt,h0]
def Fe:List (List UInt8):=[[105,110,116],[105,102],[101,108,115,101],[119,104,105,108,101],[114,101,116,117,114,110],[105,110],[111,117,116]]
def nX(x:List UInt8):Bool:= !(x.head?.map cG).getD false || Fe.contains x
theorem Cy{s:ByteArray}(h:Fe.contains s.data.toList=true):dZ s=true:=by
 have e:s.toList=s.data.toList:=ByteArray.toList_eq _;unfold dZ;rw[e];simp only[Fe,List.contains_iff_mem,List.mem_cons,List.not_mem_nil,or_false]at h;simp only[Bool.or_eq_true,beq_iff_eq];rcases h with h|h|h|h|h|h|h <;> simp[h]
theorem iA(h:Tm (T s.i) (wd nm.data.toList))(h0:s.er=0)(hn:aK nm=true)(hx:nX x=true):aC T x s=false:=by
 rw[ka h h0];simp only[decide_eq_false_iff_not];intro e;subst e;unfold nX at hx;simp only[Bool.or_eq_true,Bool.not_eq_true']at hx;rcases hx with hx|hx
 ·have:=(gd hn).2.2.1
  rw[hx]at this;cases this
 ·have hp:jm nm:=by simpa[aK]using hn
  have:=hp.2.2.2.2
  rw[Cy hx]at this;cases this
theorem kj(h:Tm (T s.i) (wd nm.data.toList))(h0:s.er=0)(hn:aK nm=true):aS T s=(nm,gt s 1):=by
 have hp:jm nm:=by simpa[aK]using hn
 have ht:(T s.i).text=nm:=(h.2.2 (by simp[wd])).trans (dw nm);have hk:(T s.i).kind=1:=h.1;unfold aS;rw[if_pos (by unfold vq;rw[h0,hk,ht,hp.2.2.2.2];rfl),ht];rfl
structure xr (T:Nat->To) (i:Nat) (f:Int):Prop where
 op:∀x,gi T (nx i)=some x->x.2.2<=f
 pa:aC T [40] (nx i)=false
 br:aC T [91] (nx i)=false
theorem A_(h:Tm (T s.i) (sy c))(h0:s.er=0):gi T s=fq.find? (fun o=>decide (c=o.1)):=by
 unfold gi;congr 1
 funext o
 exact bU h h0
theorem xu(h:Tm (T s.i) (sy c))(h0:s.er=0)(hc:c=[41]∨c=[93]∨c=[44]∨c=[59]):gi T s=none:=by
 rw[A_ h h0];rcases hc with rfl|rfl|rfl|rfl <;> rfl
theorem sA(h:Tm (T i) (sy c))(hc:c=[41]∨c=[93]∨c=[44]∨c=[59])(f:Int):xr T i f:=by
 refine⟨fun x hx=>?_,?_,?_⟩
 ·rw[xu (s:=nx i) h rfl hc]at hx;cases hx
 ·rw[bU (s:=nx i) h rfl];rcases hc with rfl|rfl|rfl|rfl <;> decide
 ·rw[bU (s:=nx i) h rfl];rcases hc with rfl|rfl|rfl|rfl <;> decide
theorem jE{n:Nd}(h:aB n=true)(hk:n.kind≠2/\n.kind≠3/\n.kind≠4):n.name=tx []:=by
 have e:n.name.toList=n.name.data.toList:=ByteArray.toList_eq _;have h2:n.name.toList=[]:=by
  unfold aB at h;have hg:=bL (n:=n) h;by_cases k1:n.kind=1
  ·simp[k1]at h;exact h.2
  rw[if_neg k1,if_neg (by omega),if_neg (by omega)]at h;by_cases k6:n.kind=6
  ·simp[k6]at h;exact h.2
  rw[if_neg k6]at h;by_cases k7:n.kind=7
  ·simp[k7]at h;exact h.2
  rw[if_neg k7]at h;split at h
  ·simp at h;exact h.2
  ·cases h
 rw[e]at h2;have:=dw n.name
 rw[h2]at this;exact this.symm
theorem jF{n m:Nd}(h1:n.kind=m.kind)(h2:n.val=m.val)(h3:n.name=m.name):n=m:=by
 cases n;cases m;simp_all
theorem A0{n:Nd}(hg:aB n=true)(hk:7<=n.kind)(h:Tm (T s.i) (sy (wordN n)))(h0:s.er=0):∃w,gi T s=some (w,n,strN n):=by
 rw[A_ h h0];have hn:=jE hg (by omega);have Ja:=bL hg;by_cases k9:n.kind=9
 ·have hv:n.val=0:=by unfold aB at hg;simp[k9]at hg;exact hg.1
  have e:n=⟨9,0,tx []⟩:=jF k9 hv hn;rw[e];exact⟨_,rfl⟩
 by_cases k8:n.kind=8
 ·have hv:n.val=0:=by unfold aB at hg;simp[k8]at hg;exact hg.1
  have e:n=⟨8,0,tx []⟩:=jF k8 hv hn;rw[e];exact⟨_,rfl⟩
 have k7:n.kind=7:=by omega
 have hv:=o6 hg k7;have:n.val=0∨n.val=1∨n.val=2∨n.val=3∨n.val=4∨n.val=5∨n.val=6∨n.val=7∨n.val=8∨n.val=9∨n.val=10∨n.val=11∨n.val=12∨n.val=13∨n.val=14∨n.val=15:=by omega
 rcases this with v|v|v|v|v|v|v|v|v|v|v|v|v|v|v|v <;> (have e:n=⟨7,_,tx []⟩:=jF k7 v hn) <;> rw[e] <;> exact⟨_,rfl⟩
theorem lH{n:Nd}(h:aB n=true):1<=strN n/\strN n<=11/\(7<=n.kind->strN n<=10)/\(n.kind<7->strN n=11):=by
 have hg:=bL h;unfold strN;split
 ·exact⟨by omega,by omega,fun _=>by omega,fun _=>by omega⟩
 ·split
  ·exact⟨by omega,by omega,fun _=>by omega,fun _=>by omega⟩
  ·split
   ·rename_i k7;have hv:=o6 h k7;have Ja:∀k:Fin 16,1<=ij.getD k.val 0/\ij.getD k.val 0<=10:=by decide
    have:=Ja ⟨n.val.toNat,by omega⟩
    simp only at this;exact⟨by omega,by omega,fun _=>by omega,fun _=>by omega⟩
   ·exact⟨by omega,by omega,fun _=>by omega,fun _=>by omega⟩
theorem xw{n:Nd}(hg:aB n=true)(hk:7<=n.kind)(h:Tm (T i) (sy (wordN n)))(hf:strN n<=f):xr T i f:=by
 obtain⟨w,hw⟩:=A0 (s:=nx i) hg hk h rfl;have hs:wordN n≠[40]/\wordN n≠[91]:=by
  have Jb:=bL hg;unfold wordN;split
  ·exact⟨by decide,by decide⟩
  ·split
   ·exact⟨by decide,by decide⟩
   ·have hv:=o6 hg (by omega);have Ja:∀k:Fin 16,dR.getD k.val []≠[40]/\dR.getD k.val []≠[91]:=by decide
    exact Ja ⟨n.val.toNat,by omega⟩
 exact⟨fun x hx=>by rw[hw]at hx;obtain rfl:=Option.some.inj hx;exact hf,by rw[bU (s:=nx i) h rfl];simpa using hs.1,by rw[bU (s:=nx i) h rfl];simpa using hs.2⟩
theorem A1(h:Pa T n (.e m) s (.n a) s'):∃k b s1,Pa T k .o s (.n b) s1/\Pa T k (.lp m b) s1 (.n a) s':=by
 cases h using Pa_i with
 | ex n m s a s1 r s' h1 h2=>exact⟨_,_,_,h1,h2⟩
theorem A2(h:Pa T n (.lp m o) s (.n a) s')(h0:s.er=0):
  (a=o/\s'=s/\∀x,gi T s=some x->x.2.2<m)∨∃k x b s1,gi T s=some x/\m<=x.2.2/\Pa T k (.e (x.2.2+1)) s.ad (.n b) s1/\Pa T k (.lp m (o++b++[x.2.1])) s1 (.n a) s':=by
 cases h using Pa_i with
 | lpd n m o s h1=>exact absurd h0 h1
 | lps n m o s h1 h2=>exact .inl ⟨rfl,rfl,h2⟩
 | lpm n m o s x b s1 r s' h1 h2 h3 h4 h5=>exact .inr ⟨_,x,b,s1,h2,h3,h4,h5⟩
theorem sB(h:Pa T n (.lp m o) s (.n a) s')(h0:s.er=0)(hx:∀x,gi T s=some x->x.2.2<m):a=o/\s'=s:=by
 rcases A2 h h0 with⟨h1,h2,-⟩|⟨k,x,b,s1,h1,h2,-,-⟩
 ·exact⟨h1,h2⟩
 ·have:=hx x h1;omega
theorem lJ(h:Pa T n .o s (.n a) s'):∃m,n=m+1:=by
 cases n with
 | zero=>cases h using Pa_i
 | succ m=>exact⟨m,rfl⟩
def QE(T:Nat->To)(e:List Nd)(ps:List Lm):Prop:=∀(m:Int) (s:PS) (n:Nat) (a:List Nd) (s':PS),m<=strN (ay e)->s.er=0->Mt T s.i (aV ps)->xr T (s.i+(aV ps).length) (strN (ay e))->Pa T n (.e m) s (.n a) s' ->
 (∃k,Pa T k (.lp m e) (gt s (aV ps).length) (.n a) s')∨s'.er=4
def OE(T:Nat->To)(e:List Nd)(ps:List Lm):Prop:=∀(s:PS) (n:Nat) (a:List Nd) (s':PS),s.er=0->Mt T s.i (aV ps)->xr T (s.i+(aV ps).length) 11->Pa T n .o s (.n a) s'->(a=e/\s'=gt s (aV ps).length)∨s'.er=4
def FT(T:Nat->To)(ps:List Lm):Prop:=∀s:PS,s.er=0->Mt T s.i (aV ps)->aC T [41] s=false
theorem OE.q(h:OE T e ps)(hs:strN (ay e)=11):QE T e ps:=by
 intro m s n a s' hm h0 hM hF hp;obtain⟨k,b,s1,h1,h2⟩:=A1 hp;rw[hs]at hF;rcases h s k b s1 h0 hM hF h1 with⟨rfl,rfl⟩|h4
 ·exact .inl ⟨k,h2⟩
 ·exact .inr (cM h2.dm h4)
theorem QE.whole(h:QE T e ps)(h1:1<=strN (ay e))(hc:c=[41]∨c=[93]∨c=[44]∨c=[59])(h0:s.er=0)(hM:Mt T s.i (aV ps))(ht:Tm (T (s.i+(aV ps).length)) (sy c))(hp:Pa T n (.e 1) s (.n a) s'):
  (a=e/\s'=gt s (aV ps).length)∨s'.er=4:=by
 rcases h 1 s n a s' h1 h0 hM (sA ht hc _) hp with⟨k,hk⟩|h4
 ·exact .inl (sB hk h0 (fun x hx=>by rw[xu (s:=gt s (aV ps).length) ht h0 hc]at hx;cases hx))
 ·exact .inr h4
theorem QE.pr(h:QE T e ps)(h1:1<=strN (ay e)){y:List UInt8}(hy:y=[41]∨y=[93])(h0:s.er=0)(hM:Mt T s.i (sy x::(aV ps++[sy y])))(hp:Pa T n (.pr x y) s (.n a) s'):
  (a=e/\s'=gt s ((aV ps).length+2))∨s'.er=4:=by
 obtain⟨m1,m2⟩:=mt_cons.1 hM;obtain⟨m3,m4⟩:=mt_app.1 m2;have m5:=(mt_cons.1 m4).1;rcases jC hp with⟨q1,-,rfl⟩|⟨q1,s1,q2,rfl⟩
 ·rcases kg m1 h0 with h2|h2
  ·rw[h2]at q1;exact absurd rfl q1
  ·exact .inr (cM (bG y _) h2)
 ·rcases kg m1 h0 with h2|h2
  ·rw[h2]at q2;rcases h.whole h1 (c:=y) (by rcases hy with rfl|rfl <;> simp) (s:=⟨s.i+1,s.op+1,0,s.pl⟩) rfl m3 m5 q2 with⟨rfl,rfl⟩|h4
   ·refine .inl ⟨rfl,?_⟩;rw[mO (s:=gt ⟨s.i+1,s.op+1,0,s.pl⟩ (aV ps).length) m5 rfl];simp only[gt,PS.mk.injEq];exact⟨by omega,by omega,h0.symm,trivial⟩
   ·exact .inr (cM (bG y _) h4)
  ·rw[q1]at h2;cases h2
theorem xy(h:Tm (T s.i) (sy c))(h0:s.er=0){k:Nat}(hk:k<3)(hi:aC T (dN.getD k []) s=true):c=dN.getD k []:=by
 rw[bU h h0]at hi;simpa using hi
theorem xz(ps:List Lm):aV (hP ps true)=sy [40]::(aV ps++[sy [41]]):=by
 show aV (sy [40]::(ps++[sy [41]]))=_;rw[tkn_sy,tkn_app,tkn_sy,tkn_nil]
theorem QE.par(h:QE T e ps)(h1:1<=strN (ay e)):OE T e (hP ps true):=by
 intro s n a s' h0 hM hF hp;obtain⟨m,rfl⟩:=lJ hp;rw[xz]at hM⊢;have m1:=(mt_cons.1 hM).1;have Ja:aC T [40] s=true:=by rw[bU m1 h0];simp
 rcases iY hp with⟨k,hk,hi,-⟩|⟨-,⟨-,hq⟩|⟨q,-⟩|⟨q,-⟩|⟨q,-⟩⟩
 ·have:=xy m1 h0 hk hi
  have h3:k=0∨k=1∨k=2:=by omega
  rcases h3 with rfl|rfl|rfl <;> simp[dN]at this
 ·have:=h.pr h1 (.inl rfl) h0 hM hq
  simpa using this
 ·rw[Ja]at q;cases q
 ·rw[Ja]at q;cases q
 ·rw[Ja]at q;cases q
theorem xA(hQ:QE T e ps)(h1:1<=strN (ay e))(c:Bool)(h0:s.er=0)(hM:Mt T s.i (aV (hP ps c)))(hF:xr T (s.i+(aV (hP ps c)).length) 11)
  (hm:c=false->m<=strN (ay e)/\xr T (s.i+(aV (hP ps c)).length) (strN (ay e))) (hp:Pa T n (.e m) s (.n a) s'):(∃k,Pa T k (.lp m e) (gt s (aV (hP ps c)).length) (.n a) s')∨s'.er=4:=by
 cases c with
 | false=>
  obtain⟨g1,g2⟩:=hm rfl;exact hQ m s n a s' g1 h0 hM g2 hp
 | true=>
  obtain⟨k,b,s1,q1,q2⟩:=A1 hp;rcases hQ.par h1 s k b s1 h0 hM hF q1 with⟨rfl,rfl⟩|h4
  ·exact .inl ⟨k,q2⟩
  ·exact .inr (cM q2.dm h4)
theorem gF(h:Cut e A b)(i:Nat)(hi:i<A):e.take (b i)++bH e b i=e.take (b (i+1)):=by
 have h1:=(h.beg i hi).1;have h2:=h.le' (i+1) (by omega);unfold bH;have e1:e.take (b i)=(e.take (b (i+1))).take (b i):=by rw[List.take_take,Nat.min_eq_left (by omega)]
 rw[e1,List.take_append_drop]
theorem xB(h:Cut e A b):e.take (b A)++[ay e]=e:=by
 have hl:=h.len;rw[h.last,co e hl];have:=bM e (e.length-1) (by omega)
 rw[show e.length-1+1=e.length by omega,List.take_length]at this;exact this.symm
theorem xr.up{g:Int}(h:xr T i f)(hg:f<=g):xr T i g:=⟨fun x hx=>Int.le_trans (h.op x hx) hg,h.pa,h.br⟩
theorem tkn_cm(P:Nat->List Lm)(i m:Nat):aV (jj P i (m+2))=aV (P i)++sy [44]::aV (jj P (i+1) (m+1)):=by
 show aV (P i++[sy [44],bk [32]]++jj P (i+1) (m+1))=_;rw[tkn_app,tkn_app,tkn_sy,tkn_bk,tkn_nil,List.append_assoc];rfl
theorem Cz{P:Nat->List Lm}(hc:Cut e A b)(hQ:∀i,i<A->QE T (bH e b i) (P i)/\FT T (P i)/\1<=strN (ay (bH e b i))):∀(m i:Nat),i+m=A->(0<i->0<m)->∀(s:PS) (n:Nat) (a:List Nd) (k:Int) (s':PS),s.er=0 ->
  Mt T s.i (aV (jj P i m)++[sy [41]])->Pa T n (.al (i:Int) (e.take (b i))) s (.a a k) s'->(a=e.take (b A)/\k=(A:Int)/\s'=gt s (aV (jj P i m)).length)∨s'.er=4:=by
 intro m;induction m with
 | zero=>
  intro i hA hi s n a k s' h0 hM hp;obtain rfl:i=0:=by omega
  obtain rfl:A=0:=by omega
  have m1:Tm (T s.i) (sy [41]):=(mt_cons.1 hM).1;rcases lG hp with⟨h1,-⟩|⟨-,-,-,rfl,rfl,rfl⟩|⟨-,h1,-⟩
  ·exact absurd h0 h1
  ·exact .inl ⟨rfl,rfl,rfl⟩
  ·rcases h1 with h1|h1
   ·simp at h1
   ·rw[bU m1 h0]at h1;simp at h1
 | succ m ih=>
  intro i hA hi s n a k s' h0 hM hp;obtain⟨q1,q2,q3⟩:=hQ i (by omega);have Ja:aC T [41] s=false:=by
   refine q2 s h0 ?_;cases m with
   | zero=>exact(mt_app.1 hM).1
   | succ m=>rw[tkn_cm,List.append_assoc]at hM;exact(mt_app.1 hM).1
  rcases lG hp with⟨h1,-⟩|⟨-,-,h1,-⟩|⟨-,-,k2,b2,s1,rfl,h2,h3⟩
  ·exact absurd h0 h1
  ·rw[Ja]at h1;cases h1
  ·cases m with
   | zero=>
    obtain⟨m1,m2⟩:=mt_app.1 hM;have m3:=(mt_cons.1 m2).1;have hR:aV (jj P i 1)=aV (P i):=rfl;rw[hR]at m1 m3⊢;rcases q1.whole q3 (.inl rfl) h0 m1 m3 h2 with⟨rfl,rfl⟩|h4
    ·rcases h3 with⟨-,rfl,rfl,rfl⟩|⟨h3,-⟩
     ·refine .inl ⟨?_,?_,rfl⟩
      ·rw[gF hc i (by omega),show i+1=A by omega]
      ·omega
     ·rw[bU (s:=gt s (aV (P i)).length) m3 h0]at h3;simp at h3
    ·rcases h3 with⟨-,-,-,rfl⟩|⟨h3,-⟩
     ·exact .inr h4
     ·have:=(cL h3).2.1;omega
   | succ m=>
    rw[tkn_cm,List.append_assoc]at hM;obtain⟨m1,m2⟩:=mt_app.1 hM;obtain⟨m3,m4⟩:=mt_cons.1 m2;rcases q1.whole q3 (.inr (.inr (.inl rfl))) h0 m1 m3 h2 with⟨rfl,rfl⟩|h4
    ·rcases h3 with⟨h3,-⟩|⟨-,h3⟩
     ·rw[bU (s:=gt s (aV (P i)).length) m3 h0]at h3;simp at h3
     ·rw[gF hc i (by omega),ad_gt,gt_gt]at h3;have:=ih (i+1) (by omega) (fun _=>by omega) (gt s ((aV (P i)).length+1)) _ a k s' h0 (by rw[gt_i];exact m4) (by exact_mod_cast h3)
      rcases this with⟨r1,r2,r3⟩|h4
      ·refine .inl ⟨r1,r2,?_⟩;rw[r3,gt_gt,tkn_cm];congr 1
       simp only[l_a,l_c];omega
      ·exact .inr h4
    ·rcases h3 with⟨-,-,-,rfl⟩|⟨h3,-⟩
     ·exact .inr h4
     ·have:=(cL h3).2.1;omega
end
end
section
open Go.RowKit
variable{n:Nat}
theorem nY{T:Nat->To}{o:List St}{s:PS}{a:List St}{s':PS}(h:Pa T n (.bs o) s (.s a) s'):
  (s.er≠0/\a=o/\s'=s)∨(s.er=0/\aC T [125] s=true/\a=o/\s'=s) ∨
  (s.er=0/\aC T [125] s=false/\∃m b s1,n=m+1/\Pa T m .st s (.s b) s1/\Pa T m (.bs (o++b)) s1 (.s a) s'):=by
 cases h using Pa_i with
 | bsd n o s h1=>
  by_cases h0:s.er=0
  ·exact .inr (.inl ⟨h0,h1.resolve_left (fun h=>h h0),rfl,rfl⟩)
  ·exact .inl ⟨h0,rfl,rfl⟩
 | bsm n o s b s1 r s' h1 h2 h3 h4=>
  have hr:∃l,PR.s b=.s l:=⟨b,rfl⟩;exact .inr (.inr ⟨h1,h2,_,b,s1,rfl,h3,h4⟩)
theorem xC{G:GT}(hL:ft G.T G.K)(Xh:Cx G n):Dp G (n+1):=by
 intro w s a s' hP Xm Jj hS;obtain⟨s1,hp,rfl⟩:∃s1,Pa G.T n (.bs []) (bA G.T [123] s) (.s a) s1/\s'=cO G.T [125] s1:=by
  cases hP using Pa_i with
  | blk n s a s1 h1=>exact⟨s1,h1,rfl⟩
 obtain⟨W1,Jd⟩:=q_ (w.alloc (.cells #[] 46));have Jk:Bl w W1:=by rw[Jd];exact r_.alloc n_ _
 have Jr:SQ w.heap.size W1 (.slice (some ⟨w.heap.size,0,none⟩) 0 0) []:=by rw[Jd];exact nV w _ n_
 have HO:=ah (d8 hL (hS.below Jk) Jj.bd [123]);have Xf:=ah (Jj.on (T:=G.T) [123]);generalize bA G.T [123] s=s0 at*;have HE:=ah Xh;have HL:=ah hL;have Jp:=ah hp;have Jb:=ah hS.lt;have Js:=ah Jr;have Jt:=ah Jk;have Xd:=ah Jd;have Jz:=ah fun W z (hW:aN G W z) (hb:z.op=s0.op)=>dG HL.out hW (Xf.out.of hb).bd [125];clear hP Jj hS Xh hL hp Jr Jk Jd;go_enter func53,ntmps53;go_upto_region 2 with fail;rw[<-Xd.out];go_wp2_with fail;refine HO.out.mono ?_;rintro e w2 ⟨rfl,h2,t2⟩;have Jx:=ah (Js.out.tcs t2 (fun k hk=>by rw[hk];exact Jb.out.1));have Xg:=ah ((Jt.out.tcs (S:=fun k=>k=G.P)).trans t2);have H2:=ah h2;clear h2 t2 HO Js Jt Xd;go_wp2;go_loopg[3] n (fun gk u wr=>∃(o:List St) (z:PS),gk<=n/\Pa G.T gk (.bs o) z (.s a) s1/\z.op=s0.op/\SQ w.heap.size wr u o/\aN G wr z/\am (fun k=>k=G.P) w wr)
 case atStart=>exact⟨[],s0,n_,Jp,rfl,Jx,H2,Xg⟩
 case round=>
  clear Jx H2 Xg Jp;obtain⟨o,z,Jo,hp,Xe,hR,hZ,hT⟩:=hrel;have p3:wr.cell? ⟨G.P,3,none⟩=some (.int .i64 z.er):=(hZ.box 3 _ rfl).1;have HI:=ah (aE hZ [125]);have HR:=ah hR;have HZ:=ah hZ;have HT:=ah hT;have Jm:=ah Xe;rcases nY hp with⟨h0,rfl,rfl⟩|⟨h0,Ji,rfl,rfl⟩|⟨h0,Ji,m,b,z1,rfl,Jg,Jl⟩
  ·clear hp hR hZ hT Jo HI;go_wp2_with fail;have HC:=ah (Jz.out _ _ HZ.out Jm);have Jn:=ah HR;have Jh:=ah HT;clear HZ;refine HC.out.mono ?_;rintro e w8 ⟨rfl,h8,t8⟩;have HF:Hid (pJ G w a _ (.returned _) w8):=⟨_,rfl,Jn.out.tcs t8 (fun k hk=>by rw[hk];exact Jb.out.1),h8,Jh.out.trans t8⟩;clear h8 t8 HC;go_wp2;go_ret;exact HF
  ·rw[h0]at p3;clear hp hR hZ hT Jo;go_wp2_with fail;refine HI.out.mono ?_;rintro e wq ⟨rfl,Ja⟩;rw[Ji];have Jf:=ah (HR.out.below Ja);have Je:=ah (HZ.out.below Ja);have Jc:=ah (HT.out.of_below Ja);clear Ja;go_wp2_with fail;have HC:=ah (Jz.out _ _ Je.out Jm);have Jn:=ah Jf;have Jh:=ah Jc;clear Je;refine HC.out.mono ?_;rintro e w8 ⟨rfl,h8,t8⟩;have HF:Hid (pJ G w a _ (.returned _) w8):=⟨_,rfl,Jn.out.tcs t8 (fun k hk=>by rw[hk];exact Jb.out.1),h8,Jh.out.trans t8⟩;clear h8 t8 HC;go_wp2;go_ret;exact HF
  ·rw[h0]at p3;have Xj:fJ (o++b)<=1000000:=t_ Jl.acc Xm;rw[szS_app]at Xj;have Xs:=ei o;have Xp:=ei b;have Xo:m<=n:=by omega
   have Jq:=ah fun W (hW:aN G W z)=>HE.out W z b z1 (Pa.ups Xo Jg) (by omega) (Xf.out.of Jm) hW;have Xi:Hid (z1.op=s0.op):=by show _=_;rw[Jg.op];exact Xe
   have Xr:=ah Jl;clear hp hR hZ hT Jo Jg Jl;go_wp2_with fail;refine HI.out.mono ?_;rintro e wq ⟨rfl,Ja⟩;rw[Ji];have Jf:=ah (HR.out.below Ja);have Je:=ah (HZ.out.below Ja);have Jc:=ah (HT.out.of_below Ja);clear Ja HI HR HZ HT;go_wp2_with fail;refine(Jq.out _ Je).mono ?_;rintro e w3 ⟨u7,rfl,Xa,h3,t3⟩;have Jy:=ah (Jf.out.tcs t3 (fun k hk=>by rw[hk];exact Jb.out.1));have Xb:=ah (Jc.out.trans t3);have Xq:w.heap.size<=w3.heap.size:=Xb.out.size;obtain⟨v9,w9,Ju,J_,Jw,Xn⟩:=qQ 41 Jy.out Xa (am.refl _ _) Jc.out.size Xq (by omega) (fun k hk=>.inl (Jf.out.rng k hk).2);have Xc:=aN.gr2 h3 Jb.out.1 Jb.out.2 Xb.out Jy.out Jw;have Jv:=ah Xc;have Xl:=ah J_;have Xk:=ah Ju;clear Xa h3 t3 Ju J_ Jw Xn Xc Jq;go_wp2_with(at_builtin;refine ao rfl _ _ _ rfl _ _ v9 w9 rfl rfl Xk.out ?_)
   go_roundg m
   case measure=>omega
   case rel=>exact⟨o++b,z1,by omega,Xr,Xi,Xl,Jv.out.1,Jv.out.2⟩
end
section
open Go.RowKit
variable{n:Nat}{t:St}{G:GT}{w X:World}{z:PS}
theorem xD{T:Nat->To}{s:PS}{r:List St}{s':PS}(h:Pa T (n+1) (.sg t) s (.s r) s'):
  ((bq T [61] s).er≠0/\r=[i8 t []]/\s'=bq T [59] (bq T [61] s))∨((bq T [61] s).er=0/\∃a s1,Pa T n (.e 1) (bq T [61] s) (.n a) s1/\r=[i8 t a]/\s'=bq T [59] s1):=by
 cases h using Pa_i with
 | sgd n t s h1=>exact .inl ⟨h1,rfl,rfl⟩
 | sge n t s a s1 h1 h2=>exact .inr ⟨h1,a,s1,h2,rfl,rfl⟩
def CA(t:St)(ve vf:Value):List Value:=[.int .i64 t.kind,.string t.name,ve,vf,.int .i64 t.thn,.int .i64 t.els]
def xE(G:GT)(w:World)(B0:Nat)(r:List St)(s':PS)(e:Ending)(w':World):Prop:=∃u,e=.returned u/\SQ B0 w' u r/\aN G w' s'/\am (fun k=>k=G.P) w w'
def Dq(G:GT)(n:Nat):Prop:=∀(w:World) (B0:Nat) (t:St) (ve vf:Value) (s:PS) (r:List St) (s':PS),Pa G.T n (.sg t) s (.s r) s'->fJ r<=1000000->eu n s->aN G w s->B0<=w.heap.size->G.P<B0 ->
 (∀W,am (fun k=>k<B0) w W->ax W ve t.e)->(∀W,am (fun k=>k<B0) w W->ax W vf t.f) ->
 Calls prog 117 #[.pointer (some ⟨G.P,0,none⟩),.agg #[.int .i64 t.kind,.string t.name,ve,vf,.int .i64 t.thn,.int .i64 t.els]] w (xE G w B0 r s')
theorem lK{B0:Nat}{ve vf:Value}(hB:B0<=X.heap.size)(hE:∀W,am (fun k=>k<B0) X W->ax W ve t.e)(hF:∀W,am (fun k=>k<B0) X W->ax W vf t.f)(hz:aN G X z)(ht:am (fun k=>k=G.P) w X):
  xE G w B0 [t] z (.returned (.slice (some ⟨X.heap.size,0,none⟩) 1 1)) (X.alloc (.cells #[.int .i64 t.kind,.string t.name,ve,vf,.int .i64 t.thn,.int .i64 t.els] 46)):=
 ⟨_,rfl,xp hB hE hF,hz.below (aD _ _),ht.alloc _⟩
theorem xF{M:Nat}{xs:List Value}(hx:aR X M xs)(hM:w.heap.size<=M)(hl:G.P<w.heap.size/\G.bT<w.heap.size)(hz:aN G X z)(ht:am (fun k=>k=G.P) w X)(i:Nat)(u:Value):
  aR (X.setCell ⟨M,i,none⟩ u) M (xs.set i u)/\aN G (X.setCell ⟨M,i,none⟩ u) z/\am (fun k=>k=G.P) w (X.setCell ⟨M,i,none⟩ u)/\am (fun k=>k=M) X (X.setCell ⟨M,i,none⟩ u):=by
 have t1:am (fun k=>k=M) X (X.setCell ⟨M,i,none⟩ u):=(am.refl (fun k=>k=M) X).setCell (p:=⟨M,i,none⟩) rfl u;exact⟨hx.set i u,hz.tcs t1 (by omega) (by omega),ht.next t1 (fun x hx=>.inr (by omega)),t1⟩
theorem xG(hL:ft G.T G.K)(hE:l9 G n):Dq G (n+1):=by
 intro w B0 t ve vf s r s' hP X_ Xn hS Xq Xv Xj Xm;obtain⟨W1,Jw⟩:=q_ (w.alloc (.cells #[.int .i64 t.kind,.string t.name,ve,vf,.int .i64 t.thn,.int .i64 t.els] 46));obtain⟨M,hM⟩:=q_ w.heap.size;have Xe:Bl w W1:=by rw[Jw];exact r_.alloc n_ _
 have Xc:aR W1 M (CA t ve vf):=by rw[Jw,hM];exact aJ w #[.int .i64 t.kind,.string t.name,ve,vf,.int .i64 t.thn,.int .i64 t.els] _ (by show 6<=1000;omega)
 have Xp:M<W1.heap.size:=b_ (Xc 0 _ rfl).1;have HO:=ah (ey hL (hS.below Xe) [61]);have Xa:=xD hP;have Js:(bq G.T [61] s).op=s.op:=ta_op _ _;have Yc:=ah ((Xn.le (Nat.le_succ n)).of Js);generalize bq G.T [61] s=z at*;obtain⟨HE,HL⟩:=h2 hE hL;have Jz:=ah hS.lt;obtain⟨Xr,Xo,J_,Jk,Jy,Jl,Xs,Xk,Xu⟩:=h9 Xc Xe Jw hM Xp Xq Xv Xj Xm;have Jo:Hid (G.P≠M):=by have:=hS.lt;show G.P≠M;omega
 have Jx:=ah fun W z (hW:aN G W z)=>ey HL.out hW [59];clear hP Xn hS hE hL Xc Xe Jw hM Xp Xq Xv Xj Xm Js;rcases Xa with⟨h0,rfl,rfl⟩|⟨h0,a,s1,Xl,rfl,rfl⟩
 ·go_enter func117,ntmps117;go_upto_region 1 with fail;rw[<-J_.out,<-Jk.out];go_wp2_with fail;refine HO.out.mono ?_;rintro e w2 ⟨rfl,h2,t2⟩;obtain⟨W3,Jj⟩:=q_ (w2.alloc (.cells #[] 48));obtain⟨B3,Xh⟩:=q_ w2.heap.size;have Jf:Bl w2 W3:=by rw[Jj];exact r_.alloc n_ _
  have Jq:=(Xo.out.tcs (S:=fun k=>k=G.P)).trans t2;have Jp:M<w2.heap.size:=l_ Jy.out t2.size;have hu:aF w2.heap.size W3 (.slice (some ⟨B3,0,none⟩) 0 0) []:=by rw[Jj,Xh];exact cE w2 _ n_
  have Ju:aR W3 M (CA t ve vf):=(Xr.out.tcs Jy.out t2 (fun e=>Jo.out e.symm)).below Jf;have h3:=h2.below Jf;have Xt:=Jq.of_below Jf;have p3:W3.cell? ⟨G.P,3,none⟩=some (.int .i64 z.er):=(h3.box 3 _ rfl).1;obtain⟨HC,Xf,HU,Xg,Jr,Jt,Xi,Yb⟩:=h8 (Jx.out W3 z h3) Ju hu Xt (l_ Jp Jf.size) Jp Jj Xh;clear h2 t2 Jf Jq hu Ju h3 Xt Jj Jp Xh HO Jx J_;go_upto_region 3 with fail;rw[<-Xi.out,<-Yb.out];go_wp2_with fail;refine HC.out.mono ?_;rintro e w5 ⟨rfl,h5,t5⟩;have Jd:=Xf.out.tcs Jr.out t5 (fun e=>Jo.out e.symm);have Jn:=Xg.out.trans t5;have Jv:aF w2.heap.size w5 (.slice (some ⟨B3,0,none⟩) 0 0) ([]):=az HU.out t5 (fun k hk=>by rw[hk];have:=Jo.out;have:=Jz.out.1;have:=Jt.out;have:=Jk.out;omega);have Xb:w.heap.size<=M:=Nat.le_of_eq Jk.out.symm;have Je:=ah (fun i u=>xF Jd Xb Jz.out h5 Jn i u);have c0:w5.cell? ⟨M,0,none⟩=some (.int .i64 t.kind):=(Jd 0 _ rfl).1;have f2:w5.frozen? ⟨M,2,none⟩=false:=(Jd 2 _ rfl).2;have f3:w5.frozen? ⟨M,3,none⟩=false:=(Jd 3 _ rfl).2;have Jg:=ah Jv;have Xx:B0<=w5.heap.size:=t_ Jl.out Jn.size;have c2:w5.cell? ⟨M,2,none⟩=some ve:=(Jd 2 _ rfl).1;have c3:w5.cell? ⟨M,3,none⟩=some vf:=(Jd 3 _ rfl).1;clear h5 t5 Jd Jn Jv HC;have Ji:Hid (∀i v X,X=w5.setCell ⟨M,i,none⟩ v->∀W,am (fun k=>k<B0) X W->ax W (.slice (some ⟨B3,0,none⟩) 0 0) ([])):=fun i v X hX W hW=>by
   have t1:am (fun k=>k=M) w5 X:=by rw[hX];exact(Je.out i v).2.2.2
   have hm:=Jt.out;have hn:aF w2.heap.size X (.slice (some ⟨B3,0,none⟩) 0 0) ([]):=cV Jg.out t1 (fun k hk e=>by have:=(World.ownsRow.lt Jg.out k hk).1;omega);exact bC hn (by have:=Jl.out;have:=Jk.out;omega) W hW
  have Jh:Hid (∀i v X,X=w5.setCell ⟨M,i,none⟩ v->∀W,am (fun k=>k<B0) X W->ax W ve t.e/\ax W vf t.f):=fun i v X hX W hW=>by
   have t1:am (fun k=>k<B0) w X:=by rw[hX];exact(Je.out i v).2.2.1.mono (fun k hk=>by rw[hk];exact Xs)
   exact⟨Xk.out W (t1.trans hW),Xu.out W (t1.trans hW)⟩
  by_cases h3:t.kind=3
  ·obtain⟨X,hX⟩:=q_ (w5.setCell ⟨M,3,none⟩ (.slice (some ⟨B3,0,none⟩) 0 0));obtain⟨Jc,Jb,Ja,-⟩:=Je.out 3 (.slice (some ⟨B3,0,none⟩) 0 0);rw[<-hX]at Jc Jb Ja;have es:i8 t ([])={t with f:=[]}:=by unfold i8;rw[if_pos h3]
   have HF:Hid (xE G w B0 [i8 t ([])] (bq G.T [59] z) (.returned (.slice (some ⟨X.heap.size,0,none⟩) 1 1)) (X.alloc (.cells #[.int .i64 t.kind,.string t.name,ve,.slice (some ⟨B3,0,none⟩) 0 0,.int .i64 t.thn,.int .i64 t.els] 46))):=by
    rw[es];exact lK (w:=w) (t:= {t with f:=[]}) (ve:=ve) (vf:=.slice (some ⟨B3,0,none⟩) 0 0) (t_ Jl.out Ja.size) (fun W hW=>(Jh.out 3 _ X hX W hW).1) (fun W hW=>Ji.out 3 _ X hX W hW) Jb Ja
   have hq:∀j v,(CA t ve (.slice (some ⟨B3,0,none⟩) 0 0))[j]? =some v->X.cell? ⟨M,j,none⟩=some v:=fun j v hj=>(Jc j v hj).1;have q0:=hq 0 _ rfl;have q1:=hq 1 _ rfl;have q2:=hq 2 _ rfl;have q3:=hq 3 _ rfl;have q4:=hq 4 _ rfl;have q5:=hq 5 _ rfl;have Jm:=ah hX;rw[h3]at c0;rw[h3]at HF;clear es;clear hX Jc Jb Ja hq Jh Ji Je Jg;go_upto_region 9 with fail;rw[<-Jm.out];go_wp2;go_ret;exact HF
  ·obtain⟨X,hX⟩:=q_ (w5.setCell ⟨M,2,none⟩ (.slice (some ⟨B3,0,none⟩) 0 0));obtain⟨Jc,Jb,Ja,-⟩:=Je.out 2 (.slice (some ⟨B3,0,none⟩) 0 0);rw[<-hX]at Jc Jb Ja;have es:i8 t ([])={t with e:=[]}:=by unfold i8;rw[if_neg h3]
   have HF:Hid (xE G w B0 [i8 t ([])] (bq G.T [59] z) (.returned (.slice (some ⟨X.heap.size,0,none⟩) 1 1)) (X.alloc (.cells #[.int .i64 t.kind,.string t.name,.slice (some ⟨B3,0,none⟩) 0 0,vf,.int .i64 t.thn,.int .i64 t.els] 46))):=by
    rw[es];exact lK (w:=w) (t:= {t with e:=[]}) (ve:=.slice (some ⟨B3,0,none⟩) 0 0) (vf:=vf) (t_ Jl.out Ja.size) (fun W hW=>Ji.out 2 _ X hX W hW) (fun W hW=>(Jh.out 2 _ X hX W hW).2) Jb Ja
   have hq:∀j v,(CA t (.slice (some ⟨B3,0,none⟩) 0 0) vf)[j]? =some v->X.cell? ⟨M,j,none⟩=some v:=fun j v hj=>(Jc j v hj).1;have q0:=hq 0 _ rfl;have q1:=hq 1 _ rfl;have q2:=hq 2 _ rfl;have q3:=hq 3 _ rfl;have q4:=hq 4 _ rfl;have q5:=hq 5 _ rfl;have Jm:=ah hX;clear es;clear hX Jc Jb Ja hq Jh Ji Je Jg;go_upto_region 9 with fail;rw[<-Jm.out];go_wp2;go_ret;exact HF
 ·go_enter func117,ntmps117;go_upto_region 1 with fail;rw[<-J_.out,<-Jk.out];go_wp2_with fail;refine HO.out.mono ?_;rintro e w2 ⟨rfl,h2,t2⟩;obtain⟨W3,Jj⟩:=q_ (w2.alloc (.cells #[] 48));have Jf:Bl w2 W3:=by rw[Jj];exact r_.alloc n_ _
  have Jq:=(Xo.out.tcs (S:=fun k=>k=G.P)).trans t2;have Jp:M<w2.heap.size:=l_ Jy.out t2.size;have Ju:aR W3 M (CA t ve vf):=(Xr.out.tcs Jy.out t2 (fun e=>Jo.out e.symm)).below Jf;have h3:=h2.below Jf;have p3:W3.cell? ⟨G.P,3,none⟩=some (.int .i64 0):=by rw[<-h0];exact(h3.box 3 _ rfl).1
  have Xy:a.length<=1000000:=by
   have:=X_
   rw[szS_cons]at this;unfold i8 at this;split at this <;> simp only at this <;> omega
  obtain⟨HX,Xf,Xg,Jr,Xi⟩:=h5 (HE.out W3 1 z a s1 Xl Xy Yc.out h3) Ju (Jq.of_below Jf) (l_ Jp Jf.size) Jj;clear h2 t2 Jf Jq Ju h3 Jj Jp HO J_ Xl;go_upto_region 3 with fail;rw[<-Xi.out];go_wp2_with fail;refine HX.out.mono ?_;rintro e w4 ⟨u4,rfl,Xd,h4,t4⟩;obtain⟨ad,cp,rfl,-⟩:=au Xd;obtain⟨HC,Xw,HU,Xz,Ya⟩:=h5 (Jx.out w4 s1 h4) (Xf.out.tcs Jr.out t4 (fun e=>Jo.out e.symm)) Xd (Xg.out.trans t4) (l_ Jr.out t4.size);have Jt:=Jr;clear Xd h4 t4 HX Jx;go_wp2_with fail;refine HC.out.mono ?_;rintro e w5 ⟨rfl,h5,t5⟩;have Jd:=Xw.out.tcs Ya.out t5 (fun e=>Jo.out e.symm);have Jn:=Xz.out.trans t5;have Jv:aF W3.heap.size w5 (.slice ad a.length cp) (a):=az HU.out t5 (fun k hk=>by rw[hk];have:=Jo.out;have:=Jz.out.1;have:=Jt.out;have:=Jk.out;omega);have Xb:w.heap.size<=M:=Nat.le_of_eq Jk.out.symm;have Je:=ah (fun i u=>xF Jd Xb Jz.out h5 Jn i u);have c0:w5.cell? ⟨M,0,none⟩=some (.int .i64 t.kind):=(Jd 0 _ rfl).1;have f2:w5.frozen? ⟨M,2,none⟩=false:=(Jd 2 _ rfl).2;have f3:w5.frozen? ⟨M,3,none⟩=false:=(Jd 3 _ rfl).2;have Jg:=ah Jv;have Xx:B0<=w5.heap.size:=t_ Jl.out Jn.size;have c2:w5.cell? ⟨M,2,none⟩=some ve:=(Jd 2 _ rfl).1;have c3:w5.cell? ⟨M,3,none⟩=some vf:=(Jd 3 _ rfl).1;clear h5 t5 Jd Jn Jv HC;have Ji:Hid (∀i v X,X=w5.setCell ⟨M,i,none⟩ v->∀W,am (fun k=>k<B0) X W->ax W (.slice ad a.length cp) (a)):=fun i v X hX W hW=>by
   have t1:am (fun k=>k=M) w5 X:=by rw[hX];exact(Je.out i v).2.2.2
   have hm:=Jt.out;have hn:aF W3.heap.size X (.slice ad a.length cp) (a):=cV Jg.out t1 (fun k hk e=>by have:=(World.ownsRow.lt Jg.out k hk).1;omega);exact bC hn (by have:=Jl.out;have:=Jk.out;omega) W hW
  have Jh:Hid (∀i v X,X=w5.setCell ⟨M,i,none⟩ v->∀W,am (fun k=>k<B0) X W->ax W ve t.e/\ax W vf t.f):=fun i v X hX W hW=>by
   have t1:am (fun k=>k<B0) w X:=by rw[hX];exact(Je.out i v).2.2.1.mono (fun k hk=>by rw[hk];exact Xs)
   exact⟨Xk.out W (t1.trans hW),Xu.out W (t1.trans hW)⟩
  by_cases h3:t.kind=3
  ·obtain⟨X,hX⟩:=q_ (w5.setCell ⟨M,3,none⟩ (.slice ad a.length cp));obtain⟨Jc,Jb,Ja,-⟩:=Je.out 3 (.slice ad a.length cp);rw[<-hX]at Jc Jb Ja;have es:i8 t (a)={t with f:=a}:=by unfold i8;rw[if_pos h3]
   have HF:Hid (xE G w B0 [i8 t (a)] (bq G.T [59] s1) (.returned (.slice (some ⟨X.heap.size,0,none⟩) 1 1)) (X.alloc (.cells #[.int .i64 t.kind,.string t.name,ve,.slice ad a.length cp,.int .i64 t.thn,.int .i64 t.els] 46))):=by
    rw[es];exact lK (w:=w) (t:= {t with f:=a}) (ve:=ve) (vf:=.slice ad a.length cp) (t_ Jl.out Ja.size) (fun W hW=>(Jh.out 3 _ X hX W hW).1) (fun W hW=>Ji.out 3 _ X hX W hW) Jb Ja
   have hq:∀j v,(CA t ve (.slice ad a.length cp))[j]? =some v->X.cell? ⟨M,j,none⟩=some v:=fun j v hj=>(Jc j v hj).1;have q0:=hq 0 _ rfl;have q1:=hq 1 _ rfl;have q2:=hq 2 _ rfl;have q3:=hq 3 _ rfl;have q4:=hq 4 _ rfl;have q5:=hq 5 _ rfl;have Jm:=ah hX;rw[h3]at c0;rw[h3]at HF;clear es;clear hX Jc Jb Ja hq Jh Ji Je Jg;go_upto_region 9 with fail;rw[<-Jm.out];go_wp2;go_ret;exact HF
  ·obtain⟨X,hX⟩:=q_ (w5.setCell ⟨M,2,none⟩ (.slice ad a.length cp));obtain⟨Jc,Jb,Ja,-⟩:=Je.out 2 (.slice ad a.length cp);rw[<-hX]at Jc Jb Ja;have es:i8 t (a)={t with e:=a}:=by unfold i8;rw[if_neg h3]
   have HF:Hid (xE G w B0 [i8 t (a)] (bq G.T [59] s1) (.returned (.slice (some ⟨X.heap.size,0,none⟩) 1 1)) (X.alloc (.cells #[.int .i64 t.kind,.string t.name,.slice ad a.length cp,vf,.int .i64 t.thn,.int .i64 t.els] 46))):=by
    rw[es];exact lK (w:=w) (t:= {t with e:=a}) (ve:=.slice ad a.length cp) (vf:=vf) (t_ Jl.out Ja.size) (fun W hW=>Ji.out 2 _ X hX W hW) (fun W hW=>(Jh.out 2 _ X hX W hW).2) Jb Ja
   have hq:∀j v,(CA t (.slice ad a.length cp) vf)[j]? =some v->X.cell? ⟨M,j,none⟩=some v:=fun j v hj=>(Jc j v hj).1;have q0:=hq 0 _ rfl;have q1:=hq 1 _ rfl;have q2:=hq 2 _ rfl;have q3:=hq 3 _ rfl;have q4:=hq 4 _ rfl;have q5:=hq 5 _ rfl;have Jm:=ah hX;clear es;clear hX Jc Jb Ja hq Jh Ji Je Jg;go_upto_region 9 with fail;rw[<-Jm.out];go_wp2;go_ret;exact HF
end
section
open Go.RowKit
theorem xH(g:Nat)(a:Option Addr)(len cap q d:Nat)(hl:len<=1048576)(hd:d<=3)(hX:Dl g a len cap q d)(z:Int)(hz:z=((d+1:Nat):Int))(S:Nat->Prop)(G:Gn)(K:Nat)(w:World)(h:GS g a len cap q S w G K)(hK:K+mK (d+1)<=50000):
  Calls prog 162 #[.pointer (some ⟨g,0,none⟩),.pointer (some ⟨q,0,none⟩),.int .i64 z] w fun e w'=>∃v,e=.returned v/\kG g a len cap q S K (mK (d+1)) 1 w v w':=by
 have Vr:=qO (d:=d) (by omega);obtain⟨D,hD⟩:=q_ (mK d);have Ve:mK (d+1)=4*D+3:=by rw[hD];rfl
 rw[Ve]at hK⊢;obtain⟨HX,HD⟩:=h2 hX hD;have Uh:1<=z/\z<=4:=by omega
 have HZ:Hid (z-1=d):=by show _=_;omega
 rw[<-hD]at Vr;clear hX hD Ve hz;have HG:=ah h;have Zy:S0 g g:=rfl;have HS:Hid (∀W,am S w W->Strs W G.vs G.ss):=h.ok.s;have Zo:Hid (∀x∈G.ss,x.size<=100000):=h.ok.ns.2.1;have Vs:Hid (∀x∈G.ls,x.size<=100000):=h.ok.ns.2.2;have Y_:Hid (∀k,Sq g q k->S k):=h.sqs;have Ua:=h.ok.sl;have Ud:=h.ok.ll;have HL:Hid (Lo g a len S w.heap.size):=h.lo;have Yb:Hid (S q):=h.sq;clear h;go_enter func162,ntmps162;go_wp2_with fail;refine(j9 g a len cap q S G K w HG.out (by omega)).mono ?_;rintro e w1 ⟨nm,rfl,Ze,Ju,Yk⟩;obtain⟨Jx,Ue,Vz⟩:=h3 Ze Ju Yk;obtain⟨Ug,Uf,xa,xn,xc,Xo,Vf,Zh,oa,ba⟩:=nW w1 G.vs G.ss nm (Ju.ok.s w1 (am.refl _ _)) (by omega) 40;have Zd:=jY Ju ba oa Zo.out Ze (by omega);have Ye:am (Sq g q) w (Xo.setCell ⟨q,2,none⟩ (.slice xa xn xc)):=(Yk.of_below ba).trans (lF Xo (.slice xa xn xc));have c2:w1.cell? ⟨q,2,none⟩=some G.vs:=Ju.box.c2;have Zv:(w1.alloc (.cells #[] 9)).cell? ⟨q,2,none⟩=some G.vs:=(Ju.alloc _).box.c2;have Za:=(Ju.below ba).box;have d2:Xo.cell? ⟨q,2,none⟩=some G.vs:=Za.c2;have f2:Xo.frozen? ⟨q,2,none⟩=false:=Za.fz 2;obtain⟨W3,Yv⟩:=q_ (Xo.setCell ⟨q,2,none⟩ (.slice xa xn xc));have Z_:=ah Yv;rw[<-Yv]at Zd Ye;obtain⟨Jr,Jy,Xh,Vu⟩:=h4 Vf Zh Zd Ye;clear Ze Ju Yk oa Zd Za Vf Zh ba Ye Yv;generalize hgv:G.vs=gvs at c2 Zv d2 Jr;have Vq:=ah hgv;clear hgv;go_upto_region 4 with(at_builtin;first
  | refine ao rfl (.tmp 19) (.tmp 23) _ rfl _ _ _ _ rfl rfl Jr.out ?_
  | refine ao rfl (.tmp 24) (.tmp 26) _ rfl _ _ _ _ rfl rfl Jy.out ?_)
 rw[<-Z_.out];clear c2 Zv d2 f2 Z_ Jr Jy;obtain⟨Uc,Vy,ya,yn,yc,Xx,Zf,Zu,ob,bb⟩:=nW W3 G.vl G.ls nm (Xh.out.ok.l _ (am.refl _ _)) (by omega) 40;have Ys:=xq Xh.out bb ob Vs.out Jx.out (by omega);have Yw:am (Sq g q) w (Xx.setCell ⟨q,3,none⟩ (.slice ya yn yc)):=(Vu.out.of_below bb).trans (lF Xx (.slice ya yn yc));have d3:W3.cell? ⟨q,3,none⟩=some G.vl:=Xh.out.box.c3;have Zq:(W3.alloc (.cells #[] 9)).cell? ⟨q,3,none⟩=some G.vl:=(Xh.out.alloc _).box.c3;have Yj:=(Xh.out.below bb).box;have e3:Xx.cell? ⟨q,3,none⟩=some G.vl:=Yj.c3;have k3:Xx.frozen? ⟨q,3,none⟩=false:=Yj.fz 3;obtain⟨W5,Yn⟩:=q_ (Xx.setCell ⟨q,3,none⟩ (.slice ya yn yc));have Va:=ah Yn;rw[<-Yn]at Ys Yw;obtain⟨G5,Zl⟩:∃G5:Gn,G5={G with m:=G.m+1,vs:=(.slice xa xn xc),ss:=G.ss++[nm],vl:=(.slice ya yn yc),ls:=G.ls++[nm]}:=⟨_,rfl⟩;have Vn:Hid (GS g a len cap q S W5 G5 (K+1)):=by rw[Zl];exact Ys
 obtain⟨Zw,Js,Xw⟩:=h3 Yw Zf Zu;clear Zf Zu ob bb Ys Yw Yj Yn Zl;generalize G.vl=gvl at d3 Zq e3 Js;go_upto_region 5 with(at_builtin;first
  | refine ao rfl (.tmp 31) (.tmp 35) _ rfl _ _ _ _ rfl rfl Js.out ?_
  | refine ao rfl (.tmp 36) (.tmp 38) _ rfl _ _ _ _ rfl rfl Xw.out ?_)
 rw[<-Va.out];clear d3 Zq e3 k3 Va Js Xw;obtain⟨W6,Jv⟩:=q_ (W5.alloc (.cells #[.int .i64 2,.int .i64 0,.string nm] 48));have Zk:=ah Jv;have Zx:Hid (GS g a len cap q S W6 G5 (K+1)):=by rw[Jv];exact Vn.out.alloc _
 have Vg:Hid (am (Sq g q) w W6):=by rw[Jv];exact Zw.out.alloc _
 obtain⟨P,hP⟩:=q_ W5.heap.size;have HP:=ah hP;have Ub:w.heap.size<=P:=by rw[hP];exact Zw.out.size
 have Zr:Hid (∀W,am (Sq g q) W6 W->W.cell? ⟨P,0,none⟩=some (.int .i64 2)/\W.cell? ⟨P,1,none⟩=some (.int .i64 0)/\W.cell? ⟨P,2,none⟩=some (.string nm)):=fun W hW=>by
  have Vt:P<W6.heap.size:=by rw[Jv,hP];simp
  have e:∀o,W.cell? ⟨P,o,none⟩=W6.cell? ⟨P,o,none⟩:=fun o=>c_ (a:=⟨P,o,none⟩) (hW.block P Vt (fun s=>by have:=HG.out.lo.s P (Y_.out P s);omega));rw[e,e,e,Jv,hP];exact⟨by simp,by simp,by simp⟩
 clear Jv hP;go_upto_region 6 with fail;rw[<-Zk.out,<-HP.out];clear Zk HP;go_wp2_with fail;refine(aI g a len cap (S0 g) _ _ hl Zy Zx.out.cur (by omega)).mono ?_;rintro e w7 ⟨x,rfl,hx,Ya⟩;have Yr:Hid (GS g a len cap q S w7 G5 (K+1)):=Zx.out.dr Ya;have Zm:Hid (am (Sq g q) w w7):=Vg.out.trans (Ya.tcs.mono iX);have Jq:Hid (am (Sq g q) W6 w7):=Ya.tcs.mono iX;obtain⟨n,Vo⟩:=q_ ((1+x).toNat);have Vm:n<=3/\1<=n:=by omega
 have Vj:Hid (1+x=(n:Int)):=by show _=_;omega
 obtain⟨nD,Yf⟩:=q_ (n*mK d);have Zz:=ah Yf;have Vl:nD<=3*D:=by rw[Yf,<-HD.out];exact Nat.mul_le_mul_right _ Vm.1
 clear Ya Vo Yf;go_wp2_with fail;refine(gE g a len cap q d (by omega) HX.out n (by omega) _ _ Vj.out HZ.out S G5 (K+1) w7 Yr.out (by rw[<-Zz.out];omega)).mono ?_;rintro e w8 ⟨vb,rfl,Rb,G8,Jn,Vw,Yh,Xb⟩;rw[<-Zz.out]at Jn Yh;obtain⟨ba,bn,bc,rfl⟩:∃ba bn bc,vb=.slice ba bn bc:=by obtain⟨x,y,e⟩:=Jn.shape;exact⟨x,_,y,e⟩
 obtain⟨p0,p1,p2⟩:=Zr.out w8 (Jq.out.trans Xb);have Vp:w7.heap.size<=w8.heap.size:=Xb.size;have Zj:w.heap.size<=w7.heap.size:=Zm.out.size;have Yy:P<w8.heap.size:=b_ p0;have Jc:=jW (w:=w8.alloc (.cells #[.int .i64 2,.int .i64 0,.string nm,.int .i64 1,.int .i64 1,.string ⟨#[]⟩,.int .i64 7,.int .i64 4,.string ⟨#[]⟩] 48)) (B:=w8.heap.size) (kd:=2) (th:=0) (el:=0) (nm:=nm) (vf:=.slice none 0 0) (f:=[]) (by simp) (bC (mN w8 w8.heap.size n_ 2 0 1 1 7 4 nm ⟨#[]⟩ ⟨#[]⟩) n_) (fun W _=>aM W) ((bI.three Jx.out (by decide) (by decide)).e3 (by omega)) (bI.nil.more y_) Jx;have Xm:=(Jn.below ((Below.refl w8.heap.size w8).alloc n_ (.cells #[.int .i64 2,.int .i64 0,.string nm,.int .i64 1,.int .i64 1,.string ⟨#[]⟩,.int .i64 7,.int .i64 4,.string ⟨#[]⟩] 48))).below (r_.alloc n_ (.cells #[.int .i64 2,.string nm,.slice (some ⟨w8.heap.size,0,none⟩) 3 3,.slice none 0 0,.int .i64 0,.int .i64 0] 46));have Xu:=(Yh.alloc (.cells #[.int .i64 2,.int .i64 0,.string nm,.int .i64 1,.int .i64 1,.string ⟨#[]⟩,.int .i64 7,.int .i64 4,.string ⟨#[]⟩] 48)).alloc (.cells #[.int .i64 2,.string nm,.slice (some ⟨w8.heap.size,0,none⟩) 3 3,.slice none 0 0,.int .i64 0,.int .i64 0] 46);have Xd:=(((Zm.out.trans Xb).alloc (.cells #[.int .i64 2,.int .i64 0,.string nm,.int .i64 1,.int .i64 1,.string ⟨#[]⟩,.int .i64 7,.int .i64 4,.string ⟨#[]⟩] 48)).alloc (.cells #[.int .i64 2,.string nm,.slice (some ⟨w8.heap.size,0,none⟩) 3 3,.slice none 0 0,.int .i64 0,.int .i64 0] 46));obtain⟨Vx,Jo,Yz,h11,J_,Vb⟩:=ji 41 Xm Jc (by simp;omega) (by omega) (iP Jc Vp (fun k hk=>(Jn.rng k hk).2));obtain⟨ca,cn,cc,rfl⟩:∃ca cn cc,Vx=.slice ca cn cc:=by obtain⟨x,y,e⟩:=h11.shape;exact⟨x,_,y,e⟩
 simp only[World.size_alloc]at Yz;obtain⟨Xs,Zi,Jz⟩:=h3 Yz h11 (Xu.app Yr.out.lo Yb.out (fun k hk=>(Jn.rng k hk).1) J_ Vb (fun k hk=>(h11.rng k hk).2));have Yo:Hid (am (Sq g q) w Jo):=Xd.next J_ (fun k hk=>.inr (t_ Zj (Jn.rng k hk).1));have Yi:Hid (am (Sq g q) W6 Jo):=(((Jq.out.trans Xb).alloc _).alloc _).next J_ (fun k hk=>.inr (t_ Jq.out.size (Jn.rng k hk).1));have Vk:w7.heap.size<=Jo.heap.size:=by have:=J_.size;simp at this;omega
 clear Jn Vw Yh Xb Jc Xm Xu Xd Yz h11 J_ Vb;go_upto_region 8 with(at_builtin;refine ao rfl _ _ _ rfl _ _ _ _ rfl rfl Xs.out ?_);clear p0 p1 p2 Xs Yy;go_wp2_with fail;refine(aI g a len cap (S0 g) _ _ hl Zy Jz.out.cur (by omega)).mono ?_;rintro e Jb ⟨y,rfl,hy,Jf⟩;have Jh:=Jz.out.dr Jf;have Xq:Hid (am (Sq g q) w Jb):=Yo.out.trans (Jf.tcs.mono iX);have Yp:Hid (am (Sq g q) W6 Jb):=Yi.out.trans (Jf.tcs.mono iX);have Jm:Hid (am (Sq g q) Jo Jb):=Jf.tcs.mono iX;obtain⟨Jd,Ja⟩:=q_ ((Jb.alloc (.cells #[.int .i64 1,.int .i64 y,.string ⟨#[]⟩] 48)).alloc (.cells #[.int .i64 1,.string nm,.slice (some ⟨Jb.heap.size,0,none⟩) 1 1,.slice none 0 0,.int .i64 0,.int .i64 0] 46));have Xp:=ah Ja;obtain⟨O,hO⟩:=q_ (Jb.heap.size+1);have HO:=ah hO;have Yd:=jW (w:=Jb.alloc (.cells #[.int .i64 1,.int .i64 y,.string ⟨#[]⟩] 48)) (B:=Jb.heap.size) (kd:=1) (th:=0) (el:=0) (nm:=nm) (vf:=.slice none 0 0) (f:=[]) (by simp) (bC (aQ Jb Jb.heap.size n_ 1 y ⟨#[]⟩) n_) (fun W _=>aM W) ((bI.one (by decide)).e3 (by omega)) (bI.nil.more y_) Jx;have Jk:=GS.add (v:=.slice (some ⟨Jb.heap.size+1,0,none⟩) 1 1) Jh ((Jh.alloc (.cells #[.int .i64 1,.int .i64 y,.string ⟨#[]⟩] 48)).alloc (.cells #[.int .i64 1,.string nm,.slice (some ⟨Jb.heap.size,0,none⟩) 1 1,.slice none 0 0,.int .i64 0,.int .i64 0] 46)) (((am.refl _ _).alloc _).alloc _) (fun k hk=>by simp[Value.ownBlock]at hk;subst hk;simp);simp only[World.size_alloc]at Yd;rw[<-Ja]at Jk;rw[<-Ja,<-hO]at Yd;rw[<-hO]at Jk;obtain⟨Xg,Yl⟩:=h2 Yd Jk;have Zb:Hid (Lo g a len (Sv S (.slice ca cn cc)) Jb.heap.size):=Jh.lo;have Yx:Hid (am (Sq g q) w Jd):=by rw[Ja];exact(Xq.out.alloc _).alloc _
 have Yt:Hid (am (Sq g q) W6 Jd):=by rw[Ja];exact(Yp.out.alloc _).alloc _
 have Xj:Hid (am (Sq g q) Jo Jd):=by rw[Ja];exact(Jm.out.alloc _).alloc _
 have Xk:w.heap.size<=Jb.heap.size:=Xq.out.size;have Xv:Jb.heap.size<=Jd.heap.size:=by rw[Ja];simp;omega
 have Jl:Jo.heap.size<=Jb.heap.size:=Jm.out.size;clear Jf Jh Yd Jk Ja hO;go_upto_region 9 with fail;rw[<-Xp.out,<-HO.out];clear Xp HO;obtain⟨p0,p1,p2⟩:=Zr.out Jd Yt;have Yy:P<Jd.heap.size:=b_ p0;have Jc:=jW (w:=Jd.alloc (.cells #[.int .i64 2,.int .i64 0,.string nm,.int .i64 1,.int .i64 0,.string ⟨#[]⟩,.int .i64 7,.int .i64 9,.string ⟨#[]⟩] 48)) (B:=Jd.heap.size) (kd:=5) (th:=cn) (el:=0) (nm:=⟨#[]⟩) (vf:=.slice none 0 0) (f:=[]) (by simp) (bC (mN Jd Jd.heap.size n_ 2 0 1 0 7 9 nm ⟨#[]⟩ ⟨#[]⟩) n_) (fun W _=>aM W) ((bI.three Jx.out (by decide) (by decide)).e3 (by omega)) (bI.nil.more y_) (by decide);have Xe:=(Xg.out.below ((Below.refl Jd.heap.size Jd).alloc n_ (.cells #[.int .i64 2,.int .i64 0,.string nm,.int .i64 1,.int .i64 0,.string ⟨#[]⟩,.int .i64 7,.int .i64 9,.string ⟨#[]⟩] 48))).below (r_.alloc n_ (.cells #[.int .i64 5,.string ⟨#[]⟩,.slice (some ⟨Jd.heap.size,0,none⟩) 3 3,.slice none 0 0,.int .i64 cn,.int .i64 0] 46));have Xn:=(Yl.out.alloc (.cells #[.int .i64 2,.int .i64 0,.string nm,.int .i64 1,.int .i64 0,.string ⟨#[]⟩,.int .i64 7,.int .i64 9,.string ⟨#[]⟩] 48)).alloc (.cells #[.int .i64 5,.string ⟨#[]⟩,.slice (some ⟨Jd.heap.size,0,none⟩) 3 3,.slice none 0 0,.int .i64 cn,.int .i64 0] 46);obtain⟨Vv,Jw,Ym,Yc,Xy,Zt⟩:=ji 41 Xe Jc (by simp;omega) (by omega) (iP Jc Xv (fun k hk=>(Xg.out.rng k hk).2));obtain⟨da,dn,dc,rfl⟩:∃da dn dc,Vv=.slice da dn dc:=by obtain⟨x,y,e⟩:=Yc.shape;exact⟨x,_,y,e⟩
 simp only[World.size_alloc]at Ym;obtain⟨Xc,Zn,Xf⟩:=h3 Ym Yc (Xn.app Zb.out (.inl Yb) (fun k hk=>(Xg.out.rng k hk).1) Xy Zt (fun k hk=>(Yc.rng k hk).2));have Jp:Hid (am (Sq g q) w Jw):=((Yx.out.alloc _).alloc _).next Xy (fun k hk=>.inr (t_ Xk (Xg.out.rng k hk).1));have Xa:Hid (am (Sq g q) Jo Jw):=((Xj.out.alloc _).alloc _).next Xy (fun k hk=>.inr (t_ Jl (Xg.out.rng k hk).1));clear Jc Xe Xn Ym Yc Xy Zt;go_upto_region 10 with(at_builtin;refine ao rfl _ _ _ rfl _ _ _ _ rfl rfl Xc.out ?_);clear p0 p1 p2 Xc Yy;have Zg:Strs Jw gvs G.ss:=by have:=HS.out Jw (Jp.out.mono Y_.out);rwa[Vq]at this
 obtain⟨Ui,V_,za,zn,zc,X_,Vc,Zp,oc,bc⟩:=nW Jw gvs G.ss nm Zg (by omega) 40;have Jt:=jY Xf.out bc oc Zo.out Jx.out (by omega);have Yu:=(Xf.out.below bc).box;have d2:X_.cell? ⟨q,2,none⟩=some G8.vs:=Yu.c2;have f2:X_.frozen? ⟨q,2,none⟩=false:=Yu.fz 2;obtain⟨W19,Ji⟩:=q_ (X_.setCell ⟨q,2,none⟩ (.slice za zn zc));have Xr:=ah Ji;have Je:am (Sq g q) Jw W19:=by rw[Ji];exact bc.tcs.trans (lF X_ _)
 rw[<-Ji]at Jt;have Jg:am (Sq g q) Jo W19:=Xa.out.trans Je;have Xz:∀k,Sq g q k->k<w7.heap.size:=fun k hk=>Yr.out.lo.s k (Y_.out k hk);have Jj:SR w.heap.size W19 (.slice da dn dc) _ (1+1):=(Zn.out.tcs Je (fun k hk=>l_ (Xz k hk) (by omega))).low Xk;have Xl:=Zi.out.tcs Jg Xz;obtain⟨Vi,Vh,Zs,Zc,Yq,Vd⟩:=ji 41 Jj Xl (t_ Jp.out.size Je.size) (by omega) (jX Zi.out (Jg.mono Xz) Zj (fun k hk=>t_ Jl (Zn.out.rng k hk).1));have Yg:=ah Zs;have HF:Hid (kG g a len cap q S K (4*D+3) 1 w Vi Vh):=by
  refine⟨_,_,Zc.more (by omega),by simp,GS.more ((Jt.sub (S':=Sv S (.slice da dn dc)) (fun k hk=>hk.imp .inl id) (.inl HL.out.sg) (.inl Yb)).app HL.out Yb.out (fun k hk=>(Jj.rng k hk).1) Yq Vd (fun k hk=>(Zc.rng k hk).2)) (by omega),?_⟩;exact(Jp.out.trans Je).next Yq (fun k hk=>.inr (Jj.rng k hk).1)
 obtain⟨Xi,Xt⟩:=h2 Vc Zp;clear Vc Zp oc bc Jt Yu Ji Je Jg Xz Jj Xl Zs Zc Yq Vd Zg;generalize G8.vs=g8v at d2;go_upto_region 11 with(at_builtin;first
  | refine ao rfl (.tmp 79) (.tmp 80) _ rfl _ _ _ _ rfl rfl Xi.out ?_
  | refine ao rfl (.tmp 81) (.tmp 83) _ rfl _ _ _ _ rfl rfl Xt.out ?_)
 rw[<-Xr.out];clear d2 f2 Xr Xi Xt;go_wp2_with(at_builtin;refine ao rfl _ _ _ rfl _ _ _ _ rfl rfl Yg.out ?_)
 go_ret;exact⟨_,rfl,HF⟩
end
section
section
variable{ps:List Lm}{e:List Nd}
variable{T:Nat->To}
theorem xI{c:List UInt8}{s:PS}{p:Lm}(h:∀x,nX x=true->aC T x s=false){k:Nat}(hk:k<3):aC T (dN.getD k []) s=false:=by
 have h3:k=0∨k=1∨k=2:=by omega
 rcases h3 with rfl|rfl|rfl <;> exact h _ (by decide)
theorem zV(h:FT T ps)(c:Bool):FT T (hP ps c):=by
 cases c with
 | false=>exact h
 | true=>
  intro s h0 hM;rw[xz]at hM;rw[bU (mt_cons.1 hM).1 h0];decide
theorem QE.op(h:QE T e ps)(h1:1<=strN (ay e))(hO:strN (ay e)=11->OE T e ps)(hb:strN (ay e)<=11):OE T e (hP ps (decide (strN (ay e)<11))):=by
 by_cases hs:strN (ay e)<11
 ·rw[decide_eq_true hs];exact h.par h1
 ·rw[decide_eq_false hs];exact hO (by omega)
theorem xJ(h:yQ e ps):QE T e ps/\(strN (ay e)=11->OE T e ps)/\FT T ps:=by
 induction h using yQ_i with
 | mk e A b P hc hk ih=>
  have hg:=hc.root_good;have Jp:=bL hg;have hb:=lH hg;have Jc:∀i,i<A->QE T (bH e b i) (P i)/\FT T (P i)/\1<=strN (ay (bH e b i)):=fun i hi=>⟨(ih i hi).1,(ih i hi).2.2,(lH (hc.kid_root i hi)).1⟩;have Jf:=hc.ar;have Ja:=xB hc;have Jb:=hc.first;have Jg:(ay e).kind<7->∀ {ps},OE T e ps->FT T ps->QE T e ps/\(strN (ay e)=11->OE T e ps)/\FT T ps:=fun hk _ h1 h2=>⟨h1.q (hb.2.2.2 hk),fun _=>h1,h2⟩;obtain⟨n,hn⟩:=q_ (ay e);rw[<-hn]at hg Jp hb Jf Ja Jg⊢;unfold Eq;by_cases k1:n.kind=1
  ·rw[if_pos k1];have hA:A=0:=by simp[arity,k1]at Jf;omega
   subst hA;rw[Jb]at Ja;refine Jg (by omega) (fun s m a s' h0 hM hF hp=>?_) (fun s h0 hM=>?_)
   ·obtain⟨m,rfl⟩:=lJ hp;rw[tkn_nu,tkn_nil]at hM⊢;have m1:=(mt_cons.1 hM).1;rcases iY hp with⟨k,hk,hi,-⟩|⟨-,⟨q,-⟩|⟨-,q,-⟩|⟨-,-,-,-,q1,q2⟩|⟨-,-,q,-⟩⟩
    ·rw[sw m1]at hi;cases hi
    ·rw[sw m1]at q;cases q
    ·rw[sw m1]at q;cases q
    ·refine .inl ⟨?_,q2⟩;rw[q1,<-Ja,m1.2.1 rfl];have:n=⟨1,n.val,tx []⟩:=jF k1 rfl (jE hg (by omega))
     show[(⟨1,n.val,tx []⟩:Nd)]=[n];rw[<-this]
    ·exact absurd ⟨h0,m1.1⟩ q
   ·rw[tkn_nu]at hM;exact sw (mt_cons.1 hM).1
  rw[if_neg k1];by_cases k2:n.kind=2
  ·rw[if_pos k2];have hA:A=0:=by simp[arity,k2]at Jf;omega
   subst hA;rw[Jb]at Ja;have Je:=gR hg (.inl k2);have hv:n.val=0:=by unfold aB at hg;simp[k2]at hg;exact hg.1
   refine Jg (by omega) (fun s m a s' h0 hM hF hp=>?_) (fun s h0 hM=>?_)
   ·obtain⟨m,rfl⟩:=lJ hp;rw[tkn_wd,tkn_nil]at hM hF⊢;have m1:=(mt_cons.1 hM).1;have Jd:∀x,nX x=true->aC T x s=false:=fun x hx=>iA m1 h0 Je hx;have Jh:aC T [91] (gt s 1)=false:=(sv (s:=gt s 1) h0).trans hF.br;have Jj:aC T [40] (gt s 1)=false:=(sv (s:=gt s 1) h0).trans hF.pa;rcases iY hp with⟨k,hk,hi,-⟩|⟨-,⟨q,-⟩|⟨-,q,-⟩|⟨-,-,-,q,-⟩|⟨-,-,-,q⟩⟩
    ·rw[xI (c:=[]) (p:=sy []) Jd hk]at hi;cases hi
    ·rw[Jd [40] (by decide)]at q;cases q
    ·rw[Jd [105,110] (by decide)]at q;cases q
    ·rw[m1.1]at q;simp[wd]at q
    ·rw[kj m1 h0 Je]at q;rcases q with⟨q,-⟩|⟨-,q,-⟩|⟨-,-,q1,q2⟩
     ·rw[Jh]at q;cases q
     ·rw[Jj]at q;cases q
     ·refine .inl ⟨?_,q2⟩;rw[q1,<-Ja];have:n=⟨2,0,n.name⟩:=jF k2 hv rfl
      show[(⟨2,0,n.name⟩:Nd)]=[n];rw[<-this]
   ·rw[tkn_wd]at hM;exact iA (mt_cons.1 hM).1 h0 Je (by decide)
  rw[if_neg k2];by_cases k3:n.kind=3
  ·rw[if_pos k3];have hA:A=1:=by simp[arity,k3]at Jf;omega
   subst hA;have Je:=gR hg (.inr (.inl k3));have hv:n.val=0:=by unfold aB at hg;simp[k3]at hg;exact hg.1
   obtain⟨q1,-,q3⟩:=Jc 0 (by omega);have ht:=gF hc 0 (by omega);rw[Jb]at ht;refine Jg (by omega) (fun s m a s' h0 hM hF hp=>?_) (fun s h0 hM=>?_)
   ·obtain⟨m,rfl⟩:=lJ hp;have et:aV ([wd n.name.data.toList,sy [91]]++P 0++[sy [93]])=wd n.name.data.toList::(sy [91]::(aV (P 0)++[sy [93]])):=by
     rw[tkn_app,tkn_app,tkn_wd,tkn_sy,tkn_sy,tkn_nil];rfl
    rw[et]at hM hF⊢;obtain⟨m1,m2⟩:=mt_cons.1 hM;have Jd:∀x,nX x=true->aC T x s=false:=fun x hx=>iA m1 h0 Je hx;have Jh:aC T [91] (gt s 1)=true:=by rw[bU (s:=gt s 1) (mt_cons.1 m2).1 h0];rfl
    rcases iY hp with⟨k,hk,hi,-⟩|⟨-,⟨q,-⟩|⟨-,q,-⟩|⟨-,-,-,q,-⟩|⟨-,-,-,q⟩⟩
    ·rw[xI (c:=[]) (p:=sy []) Jd hk]at hi;cases hi
    ·rw[Jd [40] (by decide)]at q;cases q
    ·rw[Jd [105,110] (by decide)]at q;cases q
    ·rw[m1.1]at q;simp[wd]at q
    ·rw[kj m1 h0 Je]at q;rcases q with⟨-,c,q4,q5⟩|⟨q,-⟩|⟨q,-⟩
     ·rcases q1.pr q3 (.inr rfl) (s:=gt s 1) h0 m2 q4 with⟨rfl,rfl⟩|h4
      ·refine .inl ⟨?_,?_⟩
       ·rw[q5];have:n=⟨3,0,n.name⟩:=jF k3 hv rfl
        show bH e b 0++[(⟨3,0,n.name⟩:Nd)]=e;rw[<-this];conv=>rhs;rw[<-Ja,<-ht]
        simp
       ·rw[gt_gt];congr 1;simp;omega
      ·exact .inr h4
     ·rw[Jh]at q;cases q
     ·rw[Jh]at q;cases q
   ·have Jr:Mt T s.i (wd n.name.data.toList::aV (sy [91]::(P 0++[sy [93]]))):=by
     rw[show[wd n.name.data.toList,sy [91]]++P 0++[sy [93]]=wd n.name.data.toList::(sy [91]::(P 0++[sy [93]])) by simp,tkn_wd]at hM;exact hM
    exact iA (mt_cons.1 Jr).1 h0 Je (by decide)
  rw[if_neg k3];by_cases k4:n.kind=4
  ·rw[if_pos k4];have hA:n.val=A:=by simp[arity,k4]at Jf;exact Jf
   have Je:=gR hg (.inr (.inr k4));have et:aV ([wd n.name.data.toList,sy [40]]++jj P 0 A++[sy [41]])=wd n.name.data.toList::(sy [40]::(aV (jj P 0 A)++[sy [41]])):=by
    rw[tkn_app,tkn_app,tkn_wd,tkn_sy,tkn_sy,tkn_nil];rfl
   refine Jg (by omega) (fun s m a s' h0 hM hF hp=>?_) (fun s h0 hM=>?_)
   ·obtain⟨m,rfl⟩:=lJ hp;rw[et]at hM hF⊢;obtain⟨m1,m2⟩:=mt_cons.1 hM;obtain⟨m3,m4⟩:=mt_cons.1 m2;have Jd:∀x,nX x=true->aC T x s=false:=fun x hx=>iA m1 h0 Je hx;have Jh:aC T [91] (gt s 1)=false:=by rw[bU (s:=gt s 1) m3 h0];rfl
    have Jj:aC T [40] (gt s 1)=true:=by rw[bU (s:=gt s 1) m3 h0];rfl
    rcases iY hp with⟨k,hk,hi,-⟩|⟨-,⟨q,-⟩|⟨-,q,-⟩|⟨-,-,-,q,-⟩|⟨-,-,-,q⟩⟩
    ·rw[xI (c:=[]) (p:=sy []) Jd hk]at hi;cases hi
    ·rw[Jd [40] (by decide)]at q;cases q
    ·rw[Jd [105,110] (by decide)]at q;cases q
    ·rw[m1.1]at q;simp[wd]at q
    ·rw[kj m1 h0 Je]at q;rcases q with⟨q,-⟩|⟨-,-,q⟩|⟨-,q,-⟩
     ·rw[Jh]at q;cases q
     ·cases q using Pa_i with
      | arg n2 x s2 a2 k s3 q4=>
       rcases kg (s:=gt s 1) m3 h0 with h2|h2
       ·rw[h2]at q4;have hz:([]:List Nd)=e.take (b 0):=by rw[Jb];rfl
        rw[hz]at q4;rcases Cz hc Jc A 0 (by omega) (fun h=>absurd h (Nat.lt_irrefl _)) ⟨s.i+1+1,s.op+1,0,s.pl⟩ _ a2 k s3 rfl m4 q4 with⟨r1,r2,r3⟩|h4
        ·subst r1 r2 r3;have m5:=(mt_cons.1 (mt_app.1 m4).2).1;refine .inl ⟨?_,?_⟩
         ·have:n=⟨4,(A:Int),n.name⟩:=jF k4 hA rfl
          show e.take (b A)++[(⟨4,(A:Int),n.name⟩:Nd)]=e;rw[<-this,Ja]
         ·rw[mO (s:=gt ⟨s.i+1+1,s.op+1,0,s.pl⟩ (aV (jj P 0 A)).length) m5 rfl];simp only[gt,PS.mk.injEq,l_c,l_a,l_n];exact⟨by omega,by omega,h0.symm,trivial⟩
        ·exact .inr (cM (bG _ _) h4)
       ·exact .inr (cM (bG _ _) (cM q4.dm h2))
     ·rw[Jj]at q;cases q
   ·rw[et]at hM;exact iA (mt_cons.1 hM).1 h0 Je (by decide)
  rw[if_neg k4];by_cases k5:n.kind=5
  ·rw[if_pos k5];have hA:A=0:=by simp[arity,k5]at Jf;omega
   subst hA;rw[Jb]at Ja;have hv:n.val=0:=by unfold aB at hg;simp[k5]at hg;exact hg.1
   have et:aV [wd [105,110],sy [40],sy [41]]=[wd [105,110],sy [40],sy [41]]:=rfl;refine Jg (by omega) (fun s m a s' h0 hM hF hp=>?_) (fun s h0 hM=>?_)
   ·obtain⟨m,rfl⟩:=lJ hp;rw[et]at hM hF⊢;obtain⟨m1,m2⟩:=mt_cons.1 hM;obtain⟨m3,m4⟩:=mt_cons.1 m2;have m5:=(mt_cons.1 m4).1;have Jl:aC T [105,110] s=true:=by rw[ka m1 h0];rfl
    rcases iY hp with⟨k,hk,hi,-⟩|⟨-,⟨q,-⟩|⟨-,-,q1,q2⟩|⟨-,q,-⟩|⟨-,q,-⟩⟩
    ·have h3:k=0∨k=1∨k=2:=by omega
     rw[ka m1 h0]at hi;rcases h3 with rfl|rfl|rfl <;> simp[dN]at hi
    ·rw[ka m1 h0]at q;simp at q
    ·rcases kg (s:=gt s 1) m3 h0 with h2|h2
     ·refine .inl ⟨?_,?_⟩
      ·rw[q1,<-Ja];have:n=⟨5,0,tx []⟩:=jF k5 hv (jE hg (by omega))
       show[(⟨5,0,tx []⟩:Nd)]=[n];rw[<-this]
      ·rw[q2,ad_gt,h2,mO (s:=⟨(gt s 1).i+1,(gt s 1).op+1,0,(gt s 1).pl⟩) m5 rfl];show(⟨s.i+1+1+1,s.op+1-1,0,s.pl⟩:PS)=⟨s.i+3,s.op,s.er,s.pl⟩;rw[h0,show s.op+1-1=s.op by omega]
     ·refine .inr ?_;rw[q2];exact cM (bG _ _) h2
    ·rw[Jl]at q;cases q
    ·rw[Jl]at q;cases q
   ·rw[et]at hM;rw[ka (mt_cons.1 hM).1 h0];rfl
  rw[if_neg k5];by_cases k6:n.kind=6
  ·rw[if_pos k6];have hA:A=1:=by simp[arity,k6]at Jf;omega
   subst hA;have hv:=xo hg k6;have ht:=gF hc 0 (by omega);rw[Jb]at ht;obtain⟨q1,q2,q3⟩:=Jc 0 (by omega);have hO:=q1.op q3 (ih 0 (by omega)).2.1 (lH (hc.kid_root 0 (by omega))).2.1;generalize hP (P 0) (decide (strN (ay (bH e b 0))<11))=ps0 at hO;refine Jg (by omega) (fun s m a s' h0 hM hF hp=>?_) (fun s h0 hM=>?_)
   ·obtain⟨m,rfl⟩:=lJ hp;rw[tkn_sy]at hM hF⊢;obtain⟨m1,m2⟩:=mt_cons.1 hM;have Js:∀x,x∉dN->aC T x s=false:=fun x hx=>by
     rw[bU m1 h0];simp only[decide_eq_false_iff_not];rintro rfl;refine hx ?_;rcases jD hg k6 with v|v|v <;> rw[v] <;> decide
    rcases iY hp with⟨k,hk,hi,q⟩|⟨q,-⟩
    ·have hu:=xy m1 h0 hk hi;have Jo:(k:Int)=n.val:=by
      have h3:k=0∨k=1∨k=2:=by omega
      rcases jD hg k6 with v|v|v <;> rw[v]at hu⊢ <;> rcases h3 with rfl|rfl|rfl <;> first|rfl|(revert hu;decide)
     rw[<-hu]at q;have Jm:n=⟨6,(k:Int),tx []⟩:=jF k6 Jo.symm (jE hg (by omega));rcases kg m1 h0 with h2|h2
     ·rw[h2]at q;rcases q with⟨-,c,s1,q4,q5,q6⟩|⟨q,-⟩
      ·rcases hO ⟨s.i+1,s.op+1,0,s.pl⟩ m c s1 rfl m2 (by show xr T (s.i+1+(aV ps0).length) 11;rw[show s.i+1+(aV ps0).length=s.i+(sy (unTab.getD n.val.toNat [])::aV ps0).length by simp only[l_c];omega];exact hF) q4 with⟨rfl,rfl⟩|h4
       ·refine .inl ⟨?_,?_⟩
        ·rw[q5,<-Jm];conv=>rhs;rw[<-Ja,<-ht]
         simp
        ·rw[q6];simp only[gt,PS.mk.injEq,l_c];exact⟨by omega,by omega,h0.symm,trivial⟩
       ·refine .inr ?_;rw[q6];exact h4
      ·exact absurd rfl q
     ·rcases q with⟨q,-⟩|⟨-,-,q⟩
      ·rw[h2]at q;cases q
      ·refine .inr ?_;rw[q];exact h2
    ·have h3:unTab.getD n.val.toNat []=dN.getD n.val.toNat []:=rfl;have:=q n.val.toNat (by omega)
     rw[bU m1 h0,<-h3]at this;simp at this
   ·rw[tkn_sy]at hM;rw[bU (mt_cons.1 hM).1 h0];rcases jD hg k6 with v|v|v <;> rw[v] <;> decide
  rw[if_neg k6];have h7:7<=n.kind:=by omega
  have hA:A=2:=by
   have:n.kind=7∨n.kind=8∨n.kind=9:=by omega
   simp[arity,k3,k4,k6,this]at Jf;omega
  subst hA;have Jk:=gF hc 0 (by omega);have Jq:=gF hc 1 (by omega);rw[Jb]at Jk;obtain⟨q1,f1,o1⟩:=Jc 0 (by omega);obtain⟨q2,f2,o2⟩:=Jc 1 (by omega);have Jn:=hb.2.2.1 h7;have he:bH e b 0++bH e b 1++[n]=e:=by
   conv=>rhs;rw[<-Ja,<-Jq,<-Jk]
   simp
  have et:aV (hP (P 0) (decide (strN (ay (bH e b 0))<strN n))++[bk [32],sy (wordN n),bk [32]]++hP (P 1) (decide (strN (ay (bH e b 1))<=strN n)))=aV (hP (P 0) (decide (strN (ay (bH e b 0))<strN n)))++sy (wordN n)::aV (hP (P 1) (decide (strN (ay (bH e b 1))<=strN n))):=by
   rw[tkn_app,tkn_app,tkn_bk,tkn_sy,tkn_bk,tkn_nil,List.append_assoc];rfl
  refine⟨fun m s n' a s' hm h0 hM hF hp=>?_,fun h=>by omega,fun s h0 hM=>?_⟩
  ·rw[et]at hM hF⊢;simp only[l_a,l_c]at hF⊢;obtain⟨m1,m2⟩:=mt_app.1 hM;obtain⟨m3,m4⟩:=mt_cons.1 m2;rw[<-hn]at hm hF;rcases xA q1 o1 (decide (strN (ay (bH e b 0))<strN n)) (m:=m) h0 m1 (xw hg h7 m3 (by omega)) (fun hd=>by
    have hd:=of_decide_eq_false hd;exact⟨by omega,xw hg h7 m3 (by omega)⟩) hp with⟨k,hk⟩|h4
   ·obtain⟨w,hw⟩:=A0 (s:=gt s (aV (hP (P 0) (decide (strN (ay (bH e b 0))<strN n)))).length) hg h7 m3 h0;rcases A2 hk h0 with⟨-,-,hx⟩|⟨k2,x,c,s1,hx,Jt,r1,r2⟩
    ·have:=hx _ hw
     simp only at this;omega
    ·rw[hw]at hx;obtain rfl:=Option.some.inj hx;simp only at r1 r2;rw[ad_gt,gt_gt]at r1;generalize (aV (hP (P 0) (decide (strN (ay (bH e b 0))<strN n)))).length=l0 at*;have Ji:xr T ((gt s (l0+1)).i+(aV (hP (P 1) (decide (strN (ay (bH e b 1))<=strN n)))).length) (strN n):=by
      rw[gt_i,show s.i+(l0+1)+(aV (hP (P 1) (decide (strN (ay (bH e b 1))<=strN n)))).length=s.i+(l0+((aV (hP (P 1) (decide (strN (ay (bH e b 1))<=strN n)))).length+1)) by omega];exact hF
     rcases xA q2 o2 (decide (strN (ay (bH e b 1))<=strN n)) (m:=strN n+1) (s:=gt s (l0+1)) h0 m4 (Ji.up (by omega)) (fun hd=>by
      have hd:=of_decide_eq_false hd;exact⟨by omega,Ji.up (by omega)⟩) r1 with⟨k3,hk3⟩|h4
     ·obtain⟨rfl,rfl⟩:=sB hk3 h0 (fun x hx=>by
       have:=Ji.op x ((DY (T:=T) (s:=gt (gt s (l0+1)) _) h0).symm.trans hx)
       omega)
      rw[he,gt_gt]at r2;refine .inl ⟨k2,?_⟩;rw[show l0+1+(aV (hP (P 1) (decide (strN (ay (bH e b 1))<=strN n)))).length=l0+((aV (hP (P 1) (decide (strN (ay (bH e b 1))<=strN n)))).length+1) by omega]at r2;exact r2
     ·exact .inr (cM r2.dm h4)
   ·exact .inr h4
  ·rw[et]at hM;exact zV f1 _ s h0 (mt_app.1 hM).1
end
end
section
open Go.RowKit
variable{G:GT}{w:World}{r:List St}{s':PS}
theorem xE.st{w1:World}{e:Ending}{w':World}(h:xE G w1 w.heap.size r s' e w')(ht:am (fun k=>k=G.P) w w1):pJ G w r s' e w':=by
 obtain⟨u,h1,h2,h3,h4⟩:=h;exact⟨u,h1,h2,h3,ht.trans h4⟩
theorem CB(hL:ft G.T G.K){n:Nat}(hA:Dq G n){s:PS}(hS:aN G w s)(Jj:eu n s)(Jk:fJ r<=1000000)(hi:aC G.T [105,110,116] s=true)(hp:Pa G.T n (.sg (st0 1 (aS G.T s.ad).1)) (aS G.T s.ad).2 (.s r) s'):
  Calls prog 83 #[.pointer (some ⟨G.P,0,none⟩)] w (pJ G w r s'):=by
 have HL:=ah hL;have HA:Hid (∀W,aN G W (aS G.T s.ad).2->w.heap.size<=W.heap.size->Calls prog 117 #[.pointer (some ⟨G.P,0,none⟩),.agg #[.int .i64 1,.string (aS G.T s.ad).1,.slice none 0 0,.slice none 0 0,.int .i64 0,.int .i64 0]] W (xE G W w.heap.size r s')):=fun W hW hB=>by
  have h:=hA W w.heap.size (st0 1 (aS G.T s.ad).1) (.slice none 0 0) (.slice none 0 0) _ r s' hp Jk (eu.of Jj (na_op s.ad)) hW hB hS.lt.1 (fun W _=>aM W) (fun W _=>aM W);unfold st0 at h;dsimp only at h;exact h
 have hT:=am.refl (fun k=>k=G.P) w;have Ji:=ah fun W (hW:aN G W s.ad)=>dv HL.out hW;clear hp Jk Jj hA;generalize aS G.T s.ad=nz at*;obtain⟨nm,z⟩:=nz;dsimp only at HA Ji;go_enter func83,ntmps83;go_wp2_with fail;refine(aE hS [105,110,116]).mono ?_;rintro e w1 ⟨rfl,Jb⟩;rw[hi];have Jc:=aN.below hS Jb;have Je:=am.of_below hT Jb;obtain⟨⟨Jh,Jf⟩,q1,f1,Jm⟩:=Jc.adv (fQ HL.out Jc.wf hi);obtain⟨W2,Ja⟩:=q_ (w1.setCell ⟨G.P,1,none⟩ (.int .i64 ((s.i:Int)+1)));rw[<-Ja]at Jh Jf;have Jd:=Je.trans Jf;have Jl:=ah Ja;clear Ja Jf;go_upto_region 3 with fail;rw[<-Jl.out];go_wp2_with fail;refine(Ji.out _ Jh).mono ?_;rintro e w3 ⟨rfl,h3,t3⟩;have Jg:=Jd.trans t3;have HC:=ah (HA.out w3 h3 Jg.size);go_wp2_with fail;refine HC.out.mono ?_;rintro e w4 h4;have HF:=ah (h4.st Jg);obtain⟨u4,rfl,-⟩:=h4;go_wp2;go_ret;exact HF
end
section
open Go.RowKit
variable{g len cap q K:Nat}{a:Option Addr}{S:Nat->Prop}{w:World}{G:Gn}
theorem kG.from{L m:Nat}{w1 w':World}{v:Value}(h:kG g a len cap q S K L m w1 v w')(ht:am (Sq g q) w w1):kG g a len cap q S K L m w v w':=by
 obtain⟨R,G',h1,h2,h3,h4⟩:=h;exact⟨R,G',h1.low ht.size,h2,h3,ht.trans h4⟩
theorem GS.k0(h:GS g a len cap q S w G K):∀k,Sq g q k->k<w.heap.size:=fun k hk=>h.lo.s k (h.sqs k hk)
theorem GS.cs(h:GS g a len cap q S w G K):∃a c,G.vc=.slice a G.cs.length c:=by
 obtain⟨a,c,e,-⟩:=h.ok.c w (am.refl _ _);exact⟨a,c,e⟩
theorem mP(g:Nat)(a:Option Addr)(len cap q:Nat)(hl:len<=1048576)(d:Nat)(hd:d<=4)(hX:∀d',d=d'+1->Dl g a len cap q d'):Dl g a len cap q d:=by
 intro z S G K w hz h hK;have Vs:=qO hd;obtain⟨L,hL⟩:=q_ (mK d);have Yv:=ah hL;have HX:=ah hX;rw[<-hL]at Vs hK⊢;have HG:Hid (GS g a len cap q S w G K):=h;have HZ:=ah hz;have Uy:0<=z/\z<=4:=by omega
 have J_:S0 g g:=rfl;clear hX hL h hz;go_enter func137,ntmps137;go_wp2_with fail;refine(aI g a len cap (S0 g) _ _ hl J_ HG.out.cur (by omega)).mono ?_;rintro e w1 ⟨k,rfl,hk,Xn⟩;have Ja:Hid (GS g a len cap q S w1 G K):=HG.out.dr Xn;have Jd:Hid (am (Sq g q) w w1):=Xn.tcs.mono iX;have Vj:w.heap.size<=w1.heap.size:=Xn.tcs.size;have x0:=Ja.out.box.c0;have x1:=Ja.out.box.c1;have x2:=Ja.out.box.c2;have x3:=Ja.out.box.c3;have x4:=Ja.out.box.c4;clear Xn;have hk14:(k=0∨k=1)∨(k=2∨k=3)∨(k=4∨k=5)∨(k=6∨k=7)∨k=8∨k=9∨k=10∨(k=11∨k=12)∨k=13:=by omega
 rcases hk14 with hk14|hk14|hk14|hk14|rfl|rfl|rfl|hk14|rfl
 ·rcases hk14 with rfl|rfl;all_goals (
   go_wp2_with fail;refine(dJ g a len cap (S0 g) G K w1 hl Ja.out.lo0 Ja.out.cur Ja.out.ok0 (by omega)).mono ?_;rintro e w2 ⟨u2,e2,rfl,Jk,Jm,Jg⟩;obtain⟨a2,c2,rfl,-⟩:=au Jk;have Je:Hid (GS g a len cap q S w2 G K):=Ja.out.dr Jg;have Ji:Hid (am (Sq g q) w w2):=Jd.out.trans (Jg.tcs.mono iX);have Js:Hid (∀W,am (fun k=>k<w.heap.size) w2 W->ax W (.slice a2 e2.length c2) e2):=bC Jk Jd.out.size;have Xf:Hid (bI e2 3000):=Jm.e3 (by omega);generalize e2.length=l2 at Js⊢;clear Jk Jm Jg x0 x1 x2 x3 x4;go_wp2_with fail;refine(j9 g a len cap q S G K w2 Je.out (by omega)).mono ?_;rintro e w3 ⟨nm,rfl,Ya,Jz,Zb⟩;have Yx:Hid (nm.size<=100000):=Ya;have Uv:G.ss.length<=K:=HG.out.ok.sl;obtain⟨Oc,Oa,xa,xn,xc,Xs,Vg,Ze,oa,ba⟩:=nW w3 G.vs G.ss nm (Jz.ok.s w3 (am.refl _ _)) (by omega) 40;have Yj:=jY Jz ba oa HG.out.ok.ns.2.1 Ya (by omega);have Zj:w3.cell? ⟨q,2,none⟩=some G.vs:=Jz.box.c2;have Vb:(w3.alloc (.cells #[] 9)).cell? ⟨q,2,none⟩=some G.vs:=(Jz.alloc _).box.c2;have Yr:=(Jz.below ba).box;have d2:Xs.cell? ⟨q,2,none⟩=some G.vs:=Yr.c2;have f2:Xs.frozen? ⟨q,2,none⟩=false:=Yr.fz 2;obtain⟨W5,Xo⟩:=q_ (Xs.setCell ⟨q,2,none⟩ (.slice xa xn xc));have Vf:=ah Xo;have Ju:am (Sq g q) w2 W5:=by rw[Xo];exact(Zb.of_below ba).trans (lF Xs (.slice xa xn xc))
   rw[<-Xo]at Yj;have HF:Hid (kG g a len cap q S K L 1 w (.slice (some ⟨W5.heap.size,0,none⟩) 1 1) (W5.alloc (.cells #[.int .i64 1,.string nm,.slice a2 l2 c2,.slice none 0 0,.int .i64 0,.int .i64 0] 46))):=dK (L:=L) 1 0 0 nm (Yj.more (by omega)) (Ji.out.trans Ju) (fun W hW=>Js.out W ((Ju.mono HG.out.k0).trans hW)) (fun W _=>aM W) Xf.out (bI.nil.more y_) Yx.out (by omega);have Jr:=ah Vg;have Xc:=ah Ze;clear Ya Jz Zb oa Yj Yr Vg Ze ba Ju Xo;generalize G.vs=gvs at Zj Vb d2 Jr;go_upto_region 8 with(at_builtin;first
    | refine ao rfl (.tmp 32) (.tmp 36) _ rfl _ _ _ _ rfl rfl Jr.out ?_
    | refine ao rfl (.tmp 37) (.tmp 39) _ rfl _ _ _ _ rfl rfl Xc.out ?_)
   rw[<-Vf.out];clear Zj Vb d2 f2 Vf Jr Xc;go_wp2;go_ret;exact⟨_,rfl,HF⟩)
 ·rcases hk14 with rfl|rfl;all_goals (
   go_wp2_with fail;refine(zT g a len cap q hl S G K L (by omega) w1 Ja.out (by omega)).mono ?_;rintro e w2 ⟨v,rfl,Xb⟩;have HF:Hid (kG g a len cap q S K L 1 w v w2):=Xb.from Jd;clear Xb;go_wp2;go_ret;exact⟨_,rfl,HF⟩)
 ·rcases hk14 with rfl|rfl;all_goals (
   go_wp2_with fail;refine(lE g a len cap (S0 g) hl 2 (by omega) 2 G K w1 rfl Ja.out.lo0 Ja.out.cur Ja.out.ok0 (by omega)).mono ?_;rintro e w2 ⟨u2,e2,rfl,Jk,Jm,Jg⟩;have Je:Hid (GS g a len cap q S w2 G K):=Ja.out.dr Jg;have Ji:Hid (am (Sq g q) w w2):=Jd.out.trans (Jg.tcs.mono iX);have Ys:mL 2=57:=rfl;have Js:Hid (ax w2 u2 e2):=aF.nodes Jk;have Xf:Hid (bI e2 57):=Jm;have U_:e2.length<=57:=Jm.1;clear Jk Jm Jg x0 x1 x2 x3 x4 Ys;go_wp2_with fail;refine(iz e2 _ _ _ _ u2 _ _ (Js.out.below (aD _ _)) (aQ w2 0 y_ _ _ _).nodes (by simp;omega)).mono ?_;rintro e w3 ⟨u3,rfl,Yq,Zk⟩;have Jw:=((Below.refl w2.heap.size w2).alloc n_ (.cells #[.int .i64 1,.int .i64 7,.string ⟨#[]⟩] 48)).trans (Zk.mono (by simp));obtain⟨a3,n3,Vc,rfl⟩:∃x y z,u3=.slice x y z:=by obtain⟨x,y,e,-⟩:=au Yq;exact⟨x,_,y,e⟩
   have Jh:Hid (GS g a len cap q S w3 G K):=Je.out.below Jw;have Zx:Hid (am (Sq g q) w w3):=Ji.out.of_below Jw;have Vo:Hid (∀W,am (fun k=>k<w.heap.size) w3 W->ax W (.slice a3 n3 Vc) (e2++[⟨1,7,⟨#[]⟩⟩]++[⟨7,13,⟨#[]⟩⟩])):=bC Yq (t_ Ji.out.size (by simp));have x0:=Jh.out.box.c0;have x1:=Jh.out.box.c1;have x2:=Jh.out.box.c2;have x3:=Jh.out.box.c3;have x4:=Jh.out.box.c4;clear Yq Zk Jw Js;go_wp2_with fail;refine(dJ g a len cap (S0 g) G K w3 hl Jh.out.lo0 Jh.out.cur Jh.out.ok0 (by omega)).mono ?_;rintro e w5 ⟨u5,e5,rfl,Jc,Jf,Jb⟩;obtain⟨a5,c5,rfl,-⟩:=au Jc;have HF:Hid (kG g a len cap q S K L 1 w (.slice (some ⟨w5.heap.size,0,none⟩) 1 1) (w5.alloc (.cells #[.int .i64 3,.string ⟨#[97]⟩,.slice a3 n3 Vc,.slice a5 e5.length c5,.int .i64 0,.int .i64 0] 46))):=dK (L:=L) 3 0 0 ⟨#[97]⟩ ((Jh.out.dr Jb).more (Nat.le_add_right _ _)) (Zx.out.trans (Jb.tcs.mono iX)) (fun W hW=>Vo.out W (((Jb.tcs.mono iX).mono HG.out.k0).trans hW)) (bC Jc Zx.out.size) (bI.more ((Xf.out.app (bI.one (by decide))).app (bI.one (by decide))) (by omega)) (Jf.e3 (by omega)) (by decide) (by omega);clear Jc Jf Jb x0 x1 x2 x3 x4;generalize e5.length=l5 at HF⊢;go_wp2;go_ret;exact⟨_,rfl,HF⟩)
 ·rcases hk14 with rfl|rfl;all_goals (
   go_wp2_with fail;refine(dJ g a len cap (S0 g) G K w1 hl Ja.out.lo0 Ja.out.cur Ja.out.ok0 (by omega)).mono ?_;rintro e w5 ⟨u5,e5,rfl,Jc,Jf,Jb⟩;obtain⟨a5,c5,rfl,-⟩:=au Jc;have HF:Hid (kG g a len cap q S K L 1 w (.slice (some ⟨w5.heap.size,0,none⟩) 1 1) (w5.alloc (.cells #[.int .i64 7,.string ⟨#[]⟩,.slice a5 e5.length c5,.slice none 0 0,.int .i64 0,.int .i64 0] 46))):=dK (L:=L) 7 0 0 ⟨#[]⟩ ((Ja.out.dr Jb).more (Nat.le_add_right _ _)) (Jd.out.trans (Jb.tcs.mono iX)) (bC Jc Jd.out.size) (fun W _=>aM W) (Jf.e3 (by omega)) (bI.nil.more y_) (by decide) (by omega);clear Jc Jf Jb x0 x1 x2 x3 x4;generalize e5.length=l5 at HF⊢;go_wp2;go_ret;exact⟨_,rfl,HF⟩)
 ·go_wp2_with fail;refine(eZ g a len cap (S0 g) _ _ hl J_ Ja.out.cur (by omega)).mono ?_;rintro e w2 ⟨b2,rfl,Jg⟩;have Je:Hid (GS g a len cap q S w2 G K):=Ja.out.dr Jg;have Ji:Hid (am (Sq g q) w w2):=Jd.out.trans (Jg.tcs.mono iX);clear Jg x0 x1 x2 x3 x4 Ja Jd Vj;generalize w2=w1 at*;have Ja:Hid (GS g a len cap q S w1 G K):=Je.out;have Jd:Hid (am (Sq g q) w w1):=Ji.out;clear Je Ji;have x0:=Ja.out.box.c0;have x1:=Ja.out.box.c1;have x2:=Ja.out.box.c2;have x3:=Ja.out.box.c3;have x4:=Ja.out.box.c4;cases b2
  ·go_wp2_with fail;refine(fd g a len cap (S0 g) G K w1 hl Ja.out.lo0 Ja.out.cur Ja.out.ok0 (by omega)).mono ?_;rintro e w5 ⟨u5,e5,rfl,Jc,Jf,Jb⟩;obtain⟨a5,c5,rfl,-⟩:=au Jc;have HF:Hid (kG g a len cap q S K L 1 w (.slice (some ⟨w5.heap.size,0,none⟩) 1 1) (w5.alloc (.cells #[.int .i64 7,.string ⟨#[]⟩,.slice a5 e5.length c5,.slice none 0 0,.int .i64 0,.int .i64 0] 46))):=dK (L:=L) 7 0 0 ⟨#[]⟩ ((Ja.out.dr Jb).more (Nat.le_add_right _ _)) (Jd.out.trans (Jb.tcs.mono iX)) (bC Jc Jd.out.size) (fun W _=>aM W) (Jf.e3 (by omega)) (bI.nil.more y_) (by decide) (by omega);clear Jc Jf Jb x0 x1 x2 x3 x4;generalize e5.length=l5 at HF⊢;go_wp2;go_ret;exact⟨_,rfl,HF⟩
  ·go_wp2_with fail;refine(dJ g a len cap (S0 g) G K w1 hl Ja.out.lo0 Ja.out.cur Ja.out.ok0 (by omega)).mono ?_;rintro e w5 ⟨u5,e5,rfl,Jc,Jf,Jb⟩;obtain⟨a5,c5,rfl,-⟩:=au Jc;have HF:Hid (kG g a len cap q S K L 1 w (.slice (some ⟨w5.heap.size,0,none⟩) 1 1) (w5.alloc (.cells #[.int .i64 6,.string ⟨#[]⟩,.slice a5 e5.length c5,.slice none 0 0,.int .i64 0,.int .i64 0] 46))):=dK (L:=L) 6 0 0 ⟨#[]⟩ ((Ja.out.dr Jb).more (Nat.le_add_right _ _)) (Jd.out.trans (Jb.tcs.mono iX)) (bC Jc Jd.out.size) (fun W _=>aM W) (Jf.e3 (by omega)) (bI.nil.more y_) (by decide) (by omega);clear Jc Jf Jb x0 x1 x2 x3 x4;generalize e5.length=l5 at HF⊢;go_wp2;go_ret;exact⟨_,rfl,HF⟩
 ·obtain⟨ac,cc,Jy⟩:=Ja.out.cs;by_cases hcs:0<G.cs.length
  ·have Yu:G.cs.length<=10:=Ja.out.ok.c4;have Uc:G.ps.length=G.cs.length:=Ja.out.ok.cp;obtain⟨cl,Jo⟩:=q_ G.cs.length;have Vz:0<cl/\cl<=10:=by omega
   have Vw:(0:Int)<(cl:Int):=by omega
   rw[Jy,<-Jo]at x0;have Zw:Hid (G.vc=.slice ac cl cc):=by rw[Jo];exact Jy
   have Xr:Hid (cl=G.cs.length/\cl=G.ps.length):=⟨Jo,by omega⟩;clear Jy Uc hcs Yu Jo;go_wp2_with fail;refine(aI g a len cap (S0 g) _ _ hl J_ Ja.out.cur (by omega)).mono ?_;rintro e w2 ⟨fz,rfl,hf,Jg⟩;obtain⟨f,rfl⟩:∃f:Nat,fz=f:=⟨fz.toNat,by omega⟩;have Xv:f<G.cs.length:=by have:=Xr.out.1;omega
   have Xu:f<G.ps.length:=by have:=Xr.out.2;omega
   have Je:Hid (GS g a len cap q S w2 G K):=Ja.out.dr Jg;have Ji:Hid (am (Sq g q) w w2):=Jd.out.trans (Jg.tcs.mono iX);obtain⟨pf,Ye⟩:∃pf:Int,pf=G.ps[f]:=⟨_,rfl⟩;obtain⟨nm,Za⟩:∃nm:ByteArray,nm=G.cs[f]:=⟨_,rfl⟩;have Vn:0<=pf/\pf<=6:=by rw[Ye];exact Je.out.ok.pb _ (g_ Xu)
   have Yx:Hid (nm.size<=100000):=by rw[Za];exact Je.out.ok.ns.1 _ (g_ Xv)
   obtain⟨pb,Jq,Yd,-⟩:=ints_at (Je.out.ok.p w2 (am.refl _ _)) f Xu;obtain⟨cb,Xp,Jx,Jp,-⟩:=kF (Je.out.ok.c w2 (am.refl _ _)) f Xv;have Va:Hid (G.vp=.slice (some ⟨pb,0,none⟩) cl Jq):=by rw[Xr.out.2];exact Yd
   have Xd:Hid (G.vc=.slice (some ⟨cb,Xp,none⟩) cl Jx):=by rw[Xr.out.1];exact Jp
   have Vv:Hid (∀W,am S w2 W->W.cell? ⟨pb,f,none⟩=some (.int .i64 pf)/\W.cell? ⟨cb,Xp+f,none⟩=some (.string nm)):=fun W hW=>by
    obtain⟨Ur,Ob,q1,q2⟩:=ints_at (Je.out.ok.p W hW) f Xu;obtain⟨Ut,Vi,Us,q3,q4⟩:=kF (Je.out.ok.c W hW) f Xv;rw[Yd]at q1;rw[Jp]at q3;simp only[Value.slice.injEq,Option.some.injEq,Addr.mk.injEq]at q1 q3;obtain⟨⟨rfl,-,-⟩,-,rfl⟩:=q1;obtain⟨⟨rfl,rfl,-⟩,-,rfl⟩:=q3;rw[Ye,Za];exact⟨q2,q4⟩
   have Ue:Hid (∀W,Lo g a len (S0 g) W.heap.size->dP g a len cap W->eO (S0 g) W G K->Calls prog 138 #[.pointer (some ⟨g,0,none⟩),.agg #[.slice (some ⟨cb,Xp,none⟩) cl Jx,.slice (some ⟨pb,0,none⟩) cl Jq,G.vs,G.vl,.int .i64 G.m],.int .i64 1] W fun e w'=>∃u ns,e=.returned u/\aF W.heap.size w' u ns/\bI ns 9/\Dr g a len cap (S0 g) W w'):=fun W h1 h2 h3=>by
    have:=lE g a len cap (S0 g) hl 1 (by omega) 1 G K W rfl h1 h2 h3 (by omega)
    rw[Va.out,Xd.out]at this;exact this
   have Uz:(f:Int)<(cl:Int):=by omega
   have Ui:Hid (∀W,GB q W G->W.cell? ⟨q,0,none⟩=some (.slice (some ⟨cb,Xp,none⟩) cl Jx)/\W.cell? ⟨q,1,none⟩=some (.slice (some ⟨pb,0,none⟩) cl Jq)/\W.cell? ⟨q,2,none⟩=some G.vs/\W.cell? ⟨q,3,none⟩=some G.vl/\W.cell? ⟨q,4,none⟩=some (.int .i64 G.m)):=fun W hB=>by
    have h0:=hB.c0;have h1:=hB.c1;rw[Xd.out]at h0;rw[Va.out]at h1;exact⟨h0,h1,hB.c2,hB.c3,hB.c4⟩
   have Uh:w.heap.size<=w2.heap.size:=Ji.out.size;have Vt:Hid (∀k,S k->k<w2.heap.size):=Je.out.lo.s;have Yb:Hid (Lo g a len S w2.heap.size):=Je.out.lo;have Jh:Hid (GS g a len cap q (Sv S (.slice (some ⟨w2.heap.size,0,none⟩) 0 0)) (w2.alloc (.cells #[] 48)) G K):=Je.out.add (Je.out.alloc _) ((am.refl _ _).alloc _) (fun k hk=>by simp[Value.ownBlock]at hk;subst hk;simp);clear Jg Ye Za Yd Jp x0 x1 x2 x3 x4 Xv Xu;go_wp2;go_loopw[12,13,14] (fun ov i ar wr=>∃j:Nat,(j:Int)<=pf/\i=.int .i64 j/\∃ns:List Nd,aF w2.heap.size wr ov ns/\bI ns (j*9)/\GS g a len cap q (Sv S ov) wr G K/\am (S0 g) w2 wr) (fun _ i _ _=>pf.toNat-(RowKit.intOf i).toNat)
   case atStart=>exact⟨0,by omega,rfl,[],cE w2 w2.heap.size n_,by rw[Nat.zero_mul];exact bI.nil,Jh,(am.refl _ _).alloc _⟩
   case round=>
    obtain⟨j,hj,rfl,ns,hr,hn,Yg,Xt⟩:=hrel;have HR:=ah hr;have HN:=ah hn;have Xi:=ah Yg;have Zt:=ah Xt;obtain⟨x0,x1,x2,x3,x4⟩:=Ui.out wr Yg.box;obtain⟨y0,y1⟩:=Vv.out wr (Xt.mono Je.out.s0);have Oe:ns.length<=54:=t_ hn.1 (by omega);have Ud:w2.heap.size<=wr.heap.size:=Xt.size;clear hr hn Yg Xt;by_cases hlt:(j:Int)<pf
    ·go_wp2_with fail;refine(Ue.out wr Xi.out.lo0 Xi.out.cur Xi.out.ok0).mono ?_;rintro e w4 ⟨u4,e4,rfl,Jt,Xw,Xa⟩;have Zg:=az HR.out Xa.tcs (fun k hk=>Vt.out k (Je.out.s0 k hk));have Uu:e4.length<=9:=Xw.1;obtain⟨v5,w5,r5,Yh,Zm,Z_⟩:=fF (w:=w4) w2.heap.size 44 _ ns Zg u4 e4 (aF.nodes Jt) (by omega) (t_ Ud Xa.tcs.size);have Yk:am (fun k=>u12.ownBlock=some k) w4 w5:=am.of_grown Zm (fun k hk=>hk);have Xl:Hid (aF w2.heap.size w5 v5 (ns++e4)/\bI (ns++e4) (j*9+9)/\GS g a len cap q (Sv S v5) w5 G K/\am (S0 g) w2 w5):=⟨Yh,HN.out.app Xw,(Xi.out.dr Xa).app Yb.out Je.out.sq (fun k hk=>(World.ownsRow.lt HR.out k hk).1) Yk Z_ (fun k hk=>(World.ownsRow.lt Yh k hk).2),(Zt.out.trans Xa.tcs).next Yk (fun k hk=>.inr (World.ownsRow.lt HR.out k hk).1)⟩;have Un:=ah r5;clear Jt Xw Xa Zg r5 Yh Zm Z_ x0 x1 x2 x3 x4 y0 y1 Yk;go_wp2_with(at_builtin;refine ao rfl _ _ _ rfl _ _ _ _ rfl rfl Un.out ?_)
     go_roundw
     case rel=>exact⟨j+1,by omega,by go_num,ns++e4,Xl.out.1,by rw[Nat.succ_mul];exact Xl.out.2.1,Xl.out.2.2.1,Xl.out.2.2.2⟩
     case measure=>simp[RowKit.intOf];omega
    ·have Ux:j<=6:=by omega
     go_upto_region 33 with fail;go_region_law
      (refine jV rfl (.tmp 137) (.tmp 153) rfl w2.heap.size _ ns rfl (aF.below HR.out ((r_.drew).alloc n_ _)) _ _ rfl (aQ wr.drew 0 y_ _ _ _).nodes (by simp;omega) (by simp;omega) ?_
       intro u6 w6 h6 g6 f6;obtain⟨a6,n6,c6,rfl⟩:∃x y z,u6=.slice x y z:=by obtain⟨x,y,e,-⟩:=au h6;exact⟨x,_,y,e⟩
       have Yt:am (fun k=>u12.ownBlock=some k) (wr.drew.alloc (.cells #[.int .i64 4,.int .i64 pf,.string nm] 48)) w6:=am.of_grown g6 (fun k hk=>hk);have Yp:Bl wr (wr.drew.alloc (.cells #[.int .i64 4,.int .i64 pf,.string nm] 48)):=(r_.drew).alloc n_ _;have Zu:GS g a len cap q (Sv S (.slice a6 n6 c6)) w6 G K:=(Xi.out.below Yp).app Yb.out Je.out.sq (fun k hk=>(World.ownsRow.lt HR.out k hk).1) Yt f6 (fun k hk=>(World.ownsRow.lt h6 k hk).2);have Xh:am (Sq g q) w w6:=(Ji.out.trans ((Zt.out.of_below Yp).next Yt (fun k hk=>.inr (World.ownsRow.lt HR.out k hk).1) |>.mono iX));have HF:Hid (kG g a len cap q S K L 1 w (.slice (some ⟨w6.heap.size,0,none⟩) 1 1) (w6.alloc (.cells #[.int .i64 8,.string ⟨#[]⟩,.slice a6 n6 c6,.slice none 0 0,.int .i64 0,.int .i64 0] 46))):=dK (L:=L) 8 0 0 ⟨#[]⟩ ((Zu.drop Yb.out.sg Je.out.sq).more (Nat.le_add_right _ _)) Xh (bC h6 Uh) (fun W _=>aM W) (bI.more (HN.out.app (bI.one Yx)) (by omega)) (bI.nil.more y_) (by decide) (by omega);clear h6 g6 f6 Yt Yp Zu Xh)
     all_goals (
      go_wp2;go_ret;exact⟨_,rfl,HF⟩)
  ·obtain⟨cl,Jo⟩:=q_ G.cs.length;have Ul:(cl:Int)<=0:=by omega
   rw[Jy,<-Jo]at x0;have Zw:Hid (G.vc=.slice ac cl cc):=by rw[Jo];exact Jy
   have Uf:Hid (∀W,Lo g a len (S0 g) W.heap.size->dP g a len cap W->eO (S0 g) W G K->Calls prog 140 #[.pointer (some ⟨g,0,none⟩),.agg #[.slice ac cl cc,G.vp,G.vs,G.vl,.int .i64 G.m]] W fun e w'=>∃u ns,e=.returned u/\aF W.heap.size w' u ns/\bI ns 1/\Dr g a len cap (S0 g) W w'):=fun W h1 h2 h3=>by
    have:=fd g a len cap (S0 g) G K W hl h1 h2 h3 (by omega)
    rw[Zw.out]at this;exact this
   clear Jy hcs Jo;go_wp2_with fail;refine(Uf.out w1 Ja.out.lo0 Ja.out.cur Ja.out.ok0).mono ?_;rintro e w5 ⟨u5,e5,rfl,Jc,Jf,Jb⟩;obtain⟨a5,c5,rfl,-⟩:=au Jc;have HF:Hid (kG g a len cap q S K L 1 w (.slice (some ⟨w5.heap.size,0,none⟩) 1 1) (w5.alloc (.cells #[.int .i64 7,.string ⟨#[]⟩,.slice a5 e5.length c5,.slice none 0 0,.int .i64 0,.int .i64 0] 46))):=dK (L:=L) 7 0 0 ⟨#[]⟩ ((Ja.out.dr Jb).more (Nat.le_add_right _ _)) (Jd.out.trans (Jb.tcs.mono iX)) (bC Jc Jd.out.size) (fun W _=>aM W) (Jf.e3 (by omega)) (bI.nil.more y_) (by decide) (by omega);clear Jc Jf Jb x0 x1 x2 x3 x4;generalize e5.length=l5 at HF⊢;go_wp2;go_ret;exact⟨_,rfl,HF⟩
 ·by_cases hz0:z=0
  ·subst hz0;go_wp2_with fail;refine(fd g a len cap (S0 g) G K w1 hl Ja.out.lo0 Ja.out.cur Ja.out.ok0 (by omega)).mono ?_;rintro e w5 ⟨u5,e5,rfl,Jc,Jf,Jb⟩;obtain⟨a5,c5,rfl,-⟩:=au Jc;have HF:Hid (kG g a len cap q S K L 1 w (.slice (some ⟨w5.heap.size,0,none⟩) 1 1) (w5.alloc (.cells #[.int .i64 7,.string ⟨#[]⟩,.slice a5 e5.length c5,.slice none 0 0,.int .i64 0,.int .i64 0] 46))):=dK (L:=L) 7 0 0 ⟨#[]⟩ ((Ja.out.dr Jb).more (Nat.le_add_right _ _)) (Jd.out.trans (Jb.tcs.mono iX)) (bC Jc Jd.out.size) (fun W _=>aM W) (Jf.e3 (by omega)) (bI.nil.more y_) (by decide) (by omega);clear Jc Jf Jb x0 x1 x2 x3 x4;generalize e5.length=l5 at HF⊢;go_wp2;go_ret;exact⟨_,rfl,HF⟩
  ·have Uo:0<z:=by omega
   obtain⟨d',Jl⟩:∃d',d=d'+1:=⟨d-1,by have:=HZ.out;omega⟩;have Ug:Hid (∀W,am (Sq g q) w W->GS g a len cap q S W G K->Calls prog 162 #[.pointer (some ⟨g,0,none⟩),.pointer (some ⟨q,0,none⟩),.int .i64 z] W fun e w'=>∃v,e=.returned v/\kG g a len cap q S K L 1 W v w'):=fun W _ hW=>by
    have Vp:K+mK (d'+1)<=50000:=by rw[<-Jl,<-Yv.out];exact hK
    have:=xH g a len cap q d' hl (by omega) (HX.out d' Jl) z (by rw[<-Jl];exact HZ.out) S G K W hW Vp
    rw[<-Jl,<-Yv.out]at this;exact this
   clear Jl x0 x1 x2 x3 x4;go_wp2_with fail;refine(Ug.out w1 Jd.out Ja).mono ?_;rintro e w2 ⟨v,rfl,Xb⟩;have HF:Hid (kG g a len cap q S K L 1 w v w2):=Xb.from Jd;clear Xb;go_wp2;go_ret;exact⟨_,rfl,HF⟩
 ·by_cases hz0:z=0
  ·subst hz0;rcases hk14 with rfl|rfl;all_goals (
    go_wp2_with fail;refine(fd g a len cap (S0 g) G K w1 hl Ja.out.lo0 Ja.out.cur Ja.out.ok0 (by omega)).mono ?_;rintro e w5 ⟨u5,e5,rfl,Jc,Jf,Jb⟩;obtain⟨a5,c5,rfl,-⟩:=au Jc;have HF:Hid (kG g a len cap q S K L 1 w (.slice (some ⟨w5.heap.size,0,none⟩) 1 1) (w5.alloc (.cells #[.int .i64 7,.string ⟨#[]⟩,.slice a5 e5.length c5,.slice none 0 0,.int .i64 0,.int .i64 0] 46))):=dK (L:=L) 7 0 0 ⟨#[]⟩ ((Ja.out.dr Jb).more (Nat.le_add_right _ _)) (Jd.out.trans (Jb.tcs.mono iX)) (bC Jc Jd.out.size) (fun W _=>aM W) (Jf.e3 (by omega)) (bI.nil.more y_) (by decide) (by omega);clear Jc Jf Jb x0 x1 x2 x3 x4;generalize e5.length=l5 at HF⊢;go_wp2;go_ret;exact⟨_,rfl,HF⟩)
  ·have Uo:0<z:=by omega
   obtain⟨d',Jl⟩:∃d',d=d'+1:=⟨d-1,by have:=HZ.out;omega⟩;have Zn:Hid (Dl g a len cap q d'):=HX.out d' Jl;obtain⟨D,hD⟩:=q_ (mK d');have Ua:L=4*D+3:=by rw[Yv.out,Jl,hD];rfl
   have HD:=ah hD;have Od:4*D+3<=L/\L<=4*D+3:=by omega
   have Zq:Hid (z-1=(d':Int)):=by show _=_;have:=HZ.out;omega
   have Uq:d'<=3:=by omega
   clear Jl hD Ua;rcases hk14 with rfl|rfl;all_goals (
    go_wp2_with fail;refine(dJ g a len cap (S0 g) G K w1 hl Ja.out.lo0 Ja.out.cur Ja.out.ok0 (by omega)).mono ?_;rintro e w2 ⟨u2,e2,rfl,Jk,Jm,Jg⟩;obtain⟨a2,n2,c2,rfl⟩:∃x y z,u2=.slice x y z:=by obtain⟨x,y,e,-⟩:=au Jk;exact⟨x,_,y,e⟩
    have Je:Hid (GS g a len cap q S w2 G K):=Ja.out.dr Jg;have Ji:Hid (am (Sq g q) w w2):=Jd.out.trans (Jg.tcs.mono iX);have Js:Hid (∀W,am (fun k=>k<w.heap.size) w2 W->ax W (.slice a2 n2 c2) e2):=bC Jk Jd.out.size;have Xf:Hid (bI e2 3000):=Jm.e3 (by omega);clear Jk Jm Jg x0 x1 x2 x3 x4;go_wp2_with fail;refine(aI g a len cap (S0 g) _ _ hl J_ Je.out.cur (by omega)).mono ?_;rintro e w3 ⟨x,rfl,hx,Jv⟩;have Jh:Hid (GS g a len cap q S w3 G K):=Je.out.dr Jv;have Zp:Hid (am (Sq g q) w2 w3):=Jv.tcs.mono iX;obtain⟨n,Vq⟩:=q_ x.toNat;have Xz:n<=2:=by omega
    have Vk:Hid (x=(n:Int)):=by show _=_;omega
    obtain⟨nD,Xx⟩:=q_ (n*mK d');have Vd:=ah Xx;have Vl:nD<=2*D:=by rw[Xx,<-HD.out];exact Nat.mul_le_mul_right _ Xz
    clear Jv Vq Xx;go_wp2_with fail;refine(gE g a len cap q d' (by omega) Zn.out n (by omega) _ _ Vk.out Zq.out S G K w3 Jh.out (by rw[<-Vd.out];omega)).mono ?_;rintro e w4 ⟨va,rfl,Ra,G4,Jt,-,Yz,Zi⟩;rw[<-Vd.out]at Jt Yz;obtain⟨ba,bn,bc,rfl⟩:∃x y z,va=.slice x y z:=by obtain⟨x,y,e⟩:=Jt.shape;exact⟨x,_,y,e⟩
    have Vx:=ah Jt;have Zl:=ah Yz;have Ve:Hid (am (Sq g q) w2 w4):=Zp.out.trans Zi;clear Jt Yz Zi;go_wp2_with fail;refine(aI g a len cap (S0 g) _ _ hl J_ Zl.out.cur (by omega)).mono ?_;rintro e w5 ⟨y,rfl,hy,Jb⟩;have Zf:=ah (Zl.out.dr Jb);have Vr:Hid (am (Sq g q) w4 w5):=Jb.tcs.mono iX;clear Jb;go_wp2_with fail;refine(aI g a len cap (S0 g) _ _ hl J_ Zf.out.cur (by omega)).mono ?_;rintro e w6 ⟨y2,rfl,Uw,Yn⟩;have Uk:=ah (Zf.out.dr Yn);have Zv:Hid (am (Sq g q) w4 w6):=Vr.out.trans (Yn.tcs.mono iX);obtain⟨m,Ub⟩:∃m:Nat,m=(y*y2).toNat:=⟨_,rfl⟩;have Of:0<=y*y2/\y*y2<=2:=by
     have:y2=0∨y2=1:=by omega
     rcases this with rfl|rfl <;> omega
    have Vy:m<=2:=by omega
    have Up:Hid (y*y2=(m:Int)):=by show _=_;omega
    obtain⟨mD,Yl⟩:=q_ (m*mK d');have Zh:=ah Yl;have Vm:mD<=2*D:=by rw[Yl,<-HD.out];exact Nat.mul_le_mul_right _ Vy
    have Vu:wrap64 (y*y2)=y*y2:=by unfold wrap64;omega
    have Um:Hid (IntKind.i64.wrap (y*y2)=y*y2):=by show _=_;rw[IntKind.wrap_i64];omega
    generalize hyz:y*y2=yy at*;clear Yn Ub Yl;go_wp2_with fail;try simp only[hyz]
    refine(gE g a len cap q d' (by omega) Zn.out m (by omega) _ _ Up.out Zq.out (Sv S (.slice ba bn bc)) G4 (K+nD) w6 Uk.out (by rw[<-Zh.out];omega)).mono ?_;rintro e w7 ⟨vb,rfl,Rb,G7,Xg,-,Yc,Zs⟩;rw[<-Zh.out]at Xg Yc;obtain⟨da,dn,dc,rfl⟩:∃x y z,vb=.slice x y z:=by obtain⟨x,y,e⟩:=Xg.shape;exact⟨x,_,y,e⟩
    have Xy:=Zv.out.trans Zs;have Yo:=Ve.out.trans Xy;have X_:=Ji.out.trans Yo;have Xq:w.heap.size<=w7.heap.size:=X_.size;have Zr:∀k,Sq g q k->k<w3.heap.size:=Jh.out.k0;have Ym:=Vx.out.tcs Xy Zr;have Xk:=jW (w:=w7) (B:=w.heap.size) (kd:=4) (th:=bn) (el:=dn) (nm:=⟨#[]⟩) (vf:=.slice none 0 0) (f:=[]) Xq (fun W hW=>Js.out W ((Yo.mono HG.out.k0).trans hW)) (fun W _=>aM W) Xf.out (bI.nil.more y_) (by decide);obtain⟨W8,Xm⟩:=q_ (w7.alloc (.cells #[.int .i64 4,.string ⟨#[]⟩,.slice a2 n2 c2,.slice none 0 0,.int .i64 bn,.int .i64 dn] 46));have Jn:Bl w7 W8:=by rw[Xm];exact r_.alloc n_ _
    rw[<-Xm]at Xk;have Jj:∀k,(Value.slice (some ⟨w7.heap.size,0,none⟩) 1 1).ownBlock=some k->w7.heap.size<=k:=fun k hk=>by simp[Value.ownBlock]at hk;omega
    have Y_:w.heap.size<=w3.heap.size:=t_ Ji.out.size Zp.out.size;have Yy:w.heap.size<=w6.heap.size:=t_ Ji.out.size (Ve.out.trans Zv).size;obtain⟨v9,w9,r9,h9,t9,f9⟩:=ji 41 Xk (Ym.below Jn) (t_ Xq Jn.size) (by omega) (jX Ym Jn.tcs Y_ Jj);have Xe:am (fun _=>False) w7 w9:=(Jn.tcs (S:=fun _=>False)).next t9 (fun k hk=>.inr (Jj k hk));have Zy:∀k,v9.ownBlock=some k->w7.heap.size<=k:=fun k hk=>by
     rcases f9 k hk with h|h
     ·exact Jj k h
     ·have:=Jn.size;omega
    obtain⟨V_,Vh,Zd,h10,Yi,Zo⟩:=ji 41 h9 (Xg.tcs Xe (fun k hk=>hk.elim)) (t_ Xq Xe.size) (by omega) (jX Xg (Xe.mono fun k hk=>hk.elim) Yy Zy);have Yf:=Yc.sub (S':=S) (fun k hk=>.inl (.inl hk)) HG.out.lo.sg HG.out.sq;have Zc:=GS.add (v:=.slice (some ⟨w7.heap.size,0,none⟩) 1 1) Yf (Yf.below Jn) Jn.tcs (fun k hk=>⟨Jj k hk,(Xk.rng k hk).2⟩);have Zz:=Zc.app HG.out.lo HG.out.sq (fun k hk=>(Xk.rng k hk).1) t9 f9 (fun k hk=>(h9.rng k hk).2);have Xj:=Zz.app HG.out.lo HG.out.sq (fun k hk=>(h9.rng k hk).1) Yi Zo (fun k hk=>(h10.rng k hk).2);have HF:Hid (kG g a len cap q S K L 1 w V_ Vh):=⟨_,G7,h10.more (by omega),by simp,Xj.more (by omega),(X_.trans (Xe.mono fun k hk=>hk.elim)).next Yi (fun k hk=>.inr (h9.rng k hk).1)⟩;rw[Xm]at r9;have Uj:=ah r9;have Yw:=ah Zd;clear Xg Yc Zs Xy Yo X_ Xq Zr Ym Xk Jn Jj r9 h9 t9 f9 Xe Zy Zd h10 Yi Zo Yf Zc Zz Xj Xm;go_wp2_with(at_builtin;first
     | refine ao rfl (.tmp 198) (.tmp 199) _ rfl _ _ _ _ rfl rfl Uj.out ?_
     | refine ao rfl (.tmp 200) (.tmp 201) _ rfl _ _ _ _ rfl rfl Yw.out ?_)
    go_ret;exact⟨_,rfl,HF⟩)
 ·go_wp2_with fail;refine(fd g a len cap (S0 g) G K w1 hl Ja.out.lo0 Ja.out.cur Ja.out.ok0 (by omega)).mono ?_;rintro e w5 ⟨u5,e5,rfl,Jc,Jf,Jb⟩;obtain⟨a5,c5,rfl,-⟩:=au Jc;have HF:Hid (kG g a len cap q S K L 1 w (.slice (some ⟨w5.heap.size,0,none⟩) 1 1) (w5.alloc (.cells #[.int .i64 7,.string ⟨#[]⟩,.slice a5 e5.length c5,.slice none 0 0,.int .i64 0,.int .i64 0] 46))):=dK (L:=L) 7 0 0 ⟨#[]⟩ ((Ja.out.dr Jb).more (Nat.le_add_right _ _)) (Jd.out.trans (Jb.tcs.mono iX)) (bC Jc Jd.out.size) (fun W _=>aM W) (Jf.e3 (by omega)) (bI.nil.more y_) (by decide) (by omega);clear Jc Jf Jb x0 x1 x2 x3 x4;generalize e5.length=l5 at HF⊢;go_wp2;go_ret;exact⟨_,rfl,HF⟩
theorem pK(g:Nat)(a:Option Addr)(len cap q:Nat)(hl:len<=1048576)(d:Nat):d<=4->Dl g a len cap q d:=by
 induction d with
 | zero=>intro hd;exact mP g a len cap q hl 0 hd (fun d' h=>by omega)
 | succ d ih=>intro hd;exact mP g a len cap q hl (d+1) hd (fun d' h=>by
  have e:d'=d:=by omega
  rw[e];exact ih (by omega))
end
section
variable{x y s:List UInt8}{q:Lm}{a b:List Lm}
def iw:Lm:=wd [105,110,116]
def b1:Lm:=bk [32]
def nl:Lm:=bk [10]
theorem b1_ok:b1.ok:=sn ⟨by simp,by decide⟩
theorem nl_ok:nl.ok:=sn ⟨by simp,by decide⟩
theorem zW(x:List UInt8)(h:(!x.isEmpty&&decide (x.length<=20)&&(x.head?.map cG).getD false&&x.all cJ)=true:=by decide):(wd x).ok:=by
 simp only[Bool.and_eq_true,decide_eq_true_eq,Bool.not_eq_true',List.all_eq_true]at h;exact iy ⟨fun e=>by rw[e]at h;simp at h,h.1.1.2,h.1.2,h.2⟩
theorem sep_w:uW (wd x) (sy y):=fun _ _=>⟨.inr rfl,fun h=>by simp[wd]at h⟩
theorem sep_s(h:((x.head?.map mJ).getD false)=false:=by decide):uW (sy x) (sy y):=fun _ _=>⟨.inl rfl,fun _=>.inl h⟩
def sP(s:St)(pe pf A B:List Lm):List Lm:=
 if s.kind=1 then[iw,b1,wd s.name.data.toList,b1,sy [61],b1]++pe++[sy [59],nl]
 else if s.kind=2 then[wd s.name.data.toList,b1,sy [61],b1]++pe++[sy [59],nl]
 else if s.kind=3 then[wd s.name.data.toList,sy [91]]++pe++([sy [93],b1,sy [61],b1]++pf++[sy [59],nl])
 else if s.kind=4 then[wd [105,102],b1,sy [40]]++pe++([sy [41],b1,sy [123],nl]++A++((if s.els=0 then[]else[sy [125],b1,wd [101,108,115,101],b1,sy [123],nl]++B)++[sy [125],nl]))
 else if s.kind=5 then[wd [119,104,105,108,101],b1,sy [40]]++pe++([sy [41],b1,sy [123],nl]++A++[sy [125],nl])
 else if s.kind=6 then[wd [114,101,116,117,114,110],b1]++pe++[sy [59],nl]
 else if s.kind=7 then[wd [111,117,116],sy [40]]++pe++[sy [41],sy [59],nl]
 else pe++[sy [59],nl]
structure sC (ps:List Lm) (s:List UInt8):Prop where
 tx:tL ps=s
 ch:Ch ps
 la:∀p,ps.getLast? =some p->p=nl
 hd:∀p,ps.head? =some p->p.k=1∨p.k=2∨p.k=3
theorem jZ:uW nl q:=sep_bk
theorem sC.app{t:List UInt8}(h:sC a s)(h':sC b t):sC (a++b) (s++t):=by
 refine⟨by rw[tL_app,h.tx,h'.tx],lC a b h.ch h'.ch (fun p q hp _=>by rw[h.la p hp];exact jZ),fun p hp=>?_,fun p hp=>?_⟩
 ·cases hb:b.getLast? with
  | none=>
   rw[List.getLast?_eq_none_iff]at hb;subst hb;rw[List.append_nil]at hp;exact h.la p hp
  | some q=>
   rw[aU hb]at hp;obtain rfl:=Option.some.inj hp;exact h'.la q hb
 ·cases ha:a.head? with
  | none=>
   rw[List.head?_eq_none_iff]at ha;subst ha;exact h'.hd p hp
  | some q=>
   rw[cy ha]at hp;obtain rfl:=Option.some.inj hp;exact h.hd q ha
theorem mQ(ha:∃p,a.getLast? =some p/\Er p)(h1:Ch a)(h2:Ch b)(hb:b.head? =some q)(hq:q.k=0∨q.k=3):Ch (a++b):=by
 obtain⟨p,hp,Ja⟩:=ha;exact cm h1 h2 hp hb (jk Ja hq)
theorem sD(ha:sC a s)(h2:Ch b):Ch (a++b):=
 lC a b ha.ch h2 (fun p q hp _=>by rw[ha.la p hp];exact jZ)
theorem nZ{p:Lm}(ha:Ch (a++[p]))(hp:∀q,b.head? =some q->uW p q)(hb:Ch b):Ch (a++[p]++b):=
 lC _ _ ha hb (fun p' q h1 h2=>by rw[List.getLast?_append]at h1;simp at h1;subst h1;exact hp q h2)
theorem pL{s:St}{pe pf A B:List Lm}{a b:List UInt8}(hs:stmtB s=true)(he:xj pe (gh s.e))(hf:s.kind=3->xj pf (gh s.f))(hA:sC A a)(hB:sC B b):sC (sP s pe pf A B) (bR s a b):=by
 have hg:=pi hs;have Jf:s.kind<=3->aK s.name=true:=fun h=>by
  unfold stmtB at hs;simp only[Bool.and_eq_true]at hs;have:=hs.1.1.1.1.1.2
  rw[if_pos h]at this;exact this
 obtain⟨p,hp,Jc⟩:=he.hd;have Jb:Ch [sy [59],nl]:=⟨gX [59],sep_kb,nl_ok⟩;have Jd:∀ {x:List Lm},Ch (pe++([sy [59],nl])):=fun {x}=>mQ he.la he.ch Jb rfl (.inr rfl);unfold sP bR;by_cases k1:s.kind=1
 ·rw[if_pos k1,if_pos k1];have hw:=iy (gd (Jf (by omega)));refine⟨?_,?_,fun q hq=>?_,fun q hq=>?_⟩
  ·rw[tL_app,tL_app,he.tx];simp[tL,iw,b1,wd,bk,sy,nl]
  ·rw[List.append_assoc];exact cm (a:=[iw,b1,wd s.name.data.toList,b1,sy [61],b1]) ⟨zW [105,110,116],sep_kb,b1_ok,sep_bk,hw,sep_kb,b1_ok,sep_bk,gX [61],sep_kb,b1_ok⟩ (Jd (x:=[])) rfl (cy hp) sep_bk
  ·rw[aU (p:=nl) rfl]at hq;exact(Option.some.inj hq).symm
  ·simp only[List.cons_append,List.head?_cons,Option.some.injEq]at hq;subst hq;exact .inl rfl
 rw[if_neg k1,if_neg k1];by_cases k2:s.kind=2
 ·rw[if_pos k2,if_pos k2];have hw:=iy (gd (Jf (by omega)));refine⟨?_,?_,fun q hq=>?_,fun q hq=>?_⟩
  ·rw[tL_app,tL_app,he.tx];simp[tL,b1,wd,bk,sy,nl]
  ·rw[List.append_assoc];exact cm (a:=[wd s.name.data.toList,b1,sy [61],b1]) ⟨hw,sep_kb,b1_ok,sep_bk,gX [61],sep_kb,b1_ok⟩ (Jd (x:=[])) rfl (cy hp) sep_bk
  ·rw[aU (p:=nl) rfl]at hq;exact(Option.some.inj hq).symm
  ·simp only[List.cons_append,List.head?_cons,Option.some.injEq]at hq;subst hq;exact .inl rfl
 rw[if_neg k2,if_neg k2];by_cases k3:s.kind=3
 ·rw[if_pos k3,if_pos k3];have hw:=iy (gd (Jf (by omega)));have hf:=hf k3;obtain⟨p',Jh,Ji⟩:=hf.hd;refine⟨?_,?_,fun q hq=>?_,fun q hq=>?_⟩
  ·rw[tL_app,tL_app,tL_app,tL_app,he.tx,hf.tx];simp[tL,b1,wd,bk,sy,nl]
  ·rw[List.append_assoc];refine cm (a:=[wd s.name.data.toList,sy [91]]) ⟨hw,sep_w,gX [91]⟩ ?_ rfl (cy hp) (gQ (.inl (by decide)) Jc);refine mQ he.la he.ch ?_ (q:=sy [93]) rfl (.inr rfl);rw[List.append_assoc];exact cm (a:=[sy [93],b1,sy [61],b1]) ⟨gX [93],sep_kb,b1_ok,sep_bk,gX [61],sep_kb,b1_ok⟩ (mQ hf.la hf.ch Jb rfl (.inr rfl)) rfl (cy Jh) sep_bk
  ·rw[aU (p:=nl) (aU rfl)]at hq;exact(Option.some.inj hq).symm
  ·simp only[List.cons_append,List.head?_cons,Option.some.injEq]at hq;subst hq;exact .inl rfl
 rw[if_neg k3,if_neg k3];have Je:Ch [sy [125],nl]:=⟨gX [125],sep_kb,nl_ok⟩;by_cases k4:s.kind=4
 ·rw[if_pos k4,if_pos k4];have Ja:Ch ([sy [41],b1,sy [123]]++[nl]):=⟨gX [41],sep_kb,b1_ok,sep_bk,gX [123],sep_kb,nl_ok⟩;have Jg:Ch ([sy [125],b1,wd [101,108,115,101],b1,sy [123]]++[nl]):=⟨gX [125],sep_kb,b1_ok,sep_bk,zW [101,108,115,101],sep_kb,b1_ok,sep_bk,gX [123],sep_kb,nl_ok⟩;refine⟨?_,?_,fun q hq=>?_,fun q hq=>?_⟩
  ·by_cases h0:s.els=0
   ·rw[if_pos h0,if_pos h0,tL_app,tL_app,tL_app,tL_app,he.tx,hA.tx];simp[tL,b1,wd,bk,sy,nl]
   ·rw[if_neg h0,if_neg h0,tL_app,tL_app,tL_app,tL_app,tL_app,tL_app,he.tx,hA.tx,hB.tx];simp[tL,b1,wd,bk,sy,nl]
  ·rw[List.append_assoc];refine cm (a:=[wd [105,102],b1,sy [40]]) ⟨zW [105,102],sep_kb,b1_ok,sep_bk,gX [40]⟩ ?_ rfl (cy hp) (gQ (.inl (by decide)) Jc);refine mQ he.la he.ch ?_ (q:=sy [41]) rfl (.inr rfl);rw[List.append_assoc];refine nZ (a:=[sy [41],b1,sy [123]]) Ja (fun q _=>jZ) (sD hA ?_);by_cases h0:s.els=0
   ·rw[if_pos h0];exact Je
   ·rw[if_neg h0,List.append_assoc];exact nZ (a:=[sy [125],b1,wd [101,108,115,101],b1,sy [123]]) Jg (fun q _=>jZ) (sD hB Je)
  ·rw[aU (p:=nl) (aU (aU rfl))]at hq;exact(Option.some.inj hq).symm
  ·simp only[List.cons_append,List.head?_cons,Option.some.injEq]at hq;subst hq;exact .inl rfl
 rw[if_neg k4,if_neg k4];by_cases k5:s.kind=5
 ·rw[if_pos k5,if_pos k5];have Ja:Ch ([sy [41],b1,sy [123]]++[nl]):=⟨gX [41],sep_kb,b1_ok,sep_bk,gX [123],sep_kb,nl_ok⟩;refine⟨?_,?_,fun q hq=>?_,fun q hq=>?_⟩
  ·rw[tL_app,tL_app,tL_app,tL_app,he.tx,hA.tx];simp[tL,b1,wd,bk,sy,nl]
  ·rw[List.append_assoc];refine cm (a:=[wd [119,104,105,108,101],b1,sy [40]]) ⟨zW [119,104,105,108,101],sep_kb,b1_ok,sep_bk,gX [40]⟩ ?_ rfl (cy hp) (gQ (.inl (by decide)) Jc);refine mQ he.la he.ch ?_ (q:=sy [41]) rfl (.inr rfl);rw[List.append_assoc];exact nZ (a:=[sy [41],b1,sy [123]]) Ja (fun q _=>jZ) (sD hA Je)
  ·rw[aU (p:=nl) (aU rfl)]at hq;exact(Option.some.inj hq).symm
  ·simp only[List.cons_append,List.head?_cons,Option.some.injEq]at hq;subst hq;exact .inl rfl
 rw[if_neg k5,if_neg k5];by_cases k6:s.kind=6
 ·rw[if_pos k6,if_pos k6];refine⟨?_,?_,fun q hq=>?_,fun q hq=>?_⟩
  ·rw[tL_app,tL_app,he.tx];simp[tL,b1,wd,bk,sy,nl]
  ·rw[List.append_assoc];exact cm (a:=[wd [114,101,116,117,114,110],b1]) ⟨zW [114,101,116,117,114,110],sep_kb,b1_ok⟩ (Jd (x:=[])) rfl (cy hp) sep_bk
  ·rw[aU (p:=nl) rfl]at hq;exact(Option.some.inj hq).symm
  ·simp only[List.cons_append,List.head?_cons,Option.some.injEq]at hq;subst hq;exact .inl rfl
 rw[if_neg k6,if_neg k6];by_cases k7:s.kind=7
 ·rw[if_pos k7,if_pos k7];refine⟨?_,?_,fun q hq=>?_,fun q hq=>?_⟩
  ·rw[tL_app,tL_app,he.tx];simp[tL,b1,wd,bk,sy,nl]
  ·rw[List.append_assoc];refine cm (a:=[wd [111,117,116],sy [40]]) ⟨zW [111,117,116],sep_w,gX [40]⟩ ?_ rfl (cy hp) (gQ (.inl (by decide)) Jc);exact mQ he.la he.ch (b:=[sy [41],sy [59],nl]) ⟨gX [41],sep_s,gX [59],sep_kb,nl_ok⟩ rfl (.inr rfl)
  ·rw[aU (p:=nl) rfl]at hq;exact(Option.some.inj hq).symm
  ·simp only[List.cons_append,List.head?_cons,Option.some.injEq]at hq;subst hq;exact .inl rfl
 rw[if_neg k7,if_neg k7];refine⟨?_,Jd (x:=[]),fun q hq=>?_,fun q hq=>?_⟩
 ·rw[tL_app,he.tx];simp[tL,sy,nl,bk]
 ·rw[aU (p:=nl) rfl]at hq;exact(Option.some.inj hq).symm
 ·rw[cy hp]at hq;obtain rfl:=Option.some.inj hq;have:=he.ch
  have hk:p.ok:=by
   cases pe with
   | nil=>simp at hp
   | cons x r=>simp only[List.head?_cons,Option.some.injEq]at hp;subst hp;exact this.head
  have:=hk.kd
  have:=Jc.1
  omega
end
section
open Go.RowKit
variable{G:GT}{w0 W W' X:World}{M:Nat}{xs:List Value}{z:PS}{u v:Value}{a:List Nd}
structure BS (G:GT) (w0:World) (M:Nat) (xs:List Value) (W:World) (z:PS):Prop where
 st:aN G W z
 bx:aR W M xs
 t:am (fun k=>k=G.P) w0 W
 m:M<W.heap.size
 mw:w0.heap.size<=M
 hl:G.P<w0.heap.size/\G.bT<w0.heap.size
theorem BS.below(h:BS G w0 M xs W z)(hb:Below W.heap.size W W'):BS G w0 M xs W' z:=
 ⟨h.st.below hb,h.bx.below hb,h.t.of_below hb,l_ h.m hb.size,h.mw,h.hl⟩
theorem BS.step{z':PS}(h:BS G w0 M xs W z)(hz:aN G W' z')(ht:am (fun k=>k=G.P) W W'):BS G w0 M xs W' z':=
 ⟨hz,h.bx.tcs h.m ht (fun e=>by have:=h.mw;have:=h.hl;omega),h.t.trans ht,l_ h.m ht.size,h.mw,h.hl⟩
theorem BS.put(h:BS G w0 M xs W z)(i:Nat)(u:Value)(hX:X=W.setCell ⟨M,i,none⟩ u):BS G w0 M (xs.set i u) X z/\am (fun k=>k=M) W X:=by
 obtain⟨h1,h2,h3,h4⟩:=xF h.bx h.mw h.hl h.st h.t i u;rw[<-hX]at h1 h2 h3 h4;exact⟨⟨h2,h1,h3,l_ h.m h4.size,h.mw,h.hl⟩,h4⟩
theorem fW{w:World}(hZ:aN G w z)(hT:am (fun k=>k=G.P) w0 w)(hl:G.P<w0.heap.size/\G.bT<w0.heap.size)(k:Int)(hW:W=w.alloc (.cells #[.int .i64 k,.string ⟨#[]⟩,.slice none 0 0,.slice none 0 0,.int .i64 0,.int .i64 0] 46))(hM:M=w.heap.size):
  BS G w0 M [.int .i64 k,.string ⟨#[]⟩,.slice none 0 0,.slice none 0 0,.int .i64 0,.int .i64 0] W z:=by
 have hb:Bl w W:=by rw[hW];exact r_.alloc n_ _
 have hx:aR W M [.int .i64 k,.string ⟨#[]⟩,.slice none 0 0,.slice none 0 0,.int .i64 0,.int .i64 0]:=by rw[hW,hM];exact aJ w #[.int .i64 k,.string ⟨#[]⟩,.slice none 0 0,.slice none 0 0,.int .i64 0,.int .i64 0] _ (by show 6<=1000;omega)
 exact⟨hZ.below hb,hx,hT.of_below hb,b_ (hx 0 _ rfl).1,by rw[hM];exact hT.size,hl⟩
theorem BS.row{W7:World}(h:BS G w0 M xs W z)(hr:aF W.heap.size W7 u a)(t:am (fun k=>k=M) W7 X):aF W.heap.size X u a:=
 cV hr t (fun k hk e=>by have:=(World.ownsRow.lt hr k hk).1;have:=h.m;omega)
theorem BS.row2{W9:World}(h:BS G w0 M xs W z)(hr:aF W.heap.size X u a)(t:am (fun k=>k=G.P) X W9):aF W.heap.size W9 u a/\∀W',am (fun k=>k<w0.heap.size) W9 W'->ax W' u a:=by
 have h1:aF W.heap.size W9 u a:=az hr t (fun k hk=>by rw[hk];exact h.st.lt.1);exact⟨h1,bC h1 h.t.size⟩
theorem BS.fin{kd th el:Int}{nm:ByteArray}{ve vf:Value}{f:List Nd}(h:BS G w0 M [.int .i64 kd,.string nm,ve,vf,.int .i64 th,.int .i64 el] W z)(hE:∀W',am (fun k=>k<w0.heap.size) W W'->ax W' ve a)(hF:∀W',am (fun k=>k<w0.heap.size) W W'->ax W' vf f):
  pJ G w0 [⟨kd,nm,a,f,th,el⟩] z (.returned (.slice (some ⟨W.heap.size,0,none⟩) 1 1)) (W.alloc (.cells #[.int .i64 kd,.string nm,ve,vf,.int .i64 th,.int .i64 el] 46)):=
 lK (t:=⟨kd,nm,a,f,th,el⟩) h.t.size hE hF h.st h.t
theorem BS.q(h:BS G w0 M xs W z){j:Nat}(hj:xs[j]? =some v):W.cell? ⟨M,j,none⟩=some v/\W.frozen? ⟨M,j,none⟩=false:=h.bx j v hj
end
section
open Go.RowKit
theorem CC{G:GT}(hL:ft G.T G.K){n:Nat}(hC:AY G n){w:World}{s:PS}{a:List Nd}{s1:PS}(hS:aN G w s)(Jx:eu n s)(Xe:a.length<=1000000)(hi:aC G.T [111,117,116] s=true)(hp:Pa G.T n (.pr [40] [41]) s.ad (.n a) s1):
  Calls prog 83 #[.pointer (some ⟨G.P,0,none⟩)] w (pJ G w [⟨7,tx [],a,[],0,0⟩] (bq G.T [59] s1)):=by
 have HL:=ah hL;have Xc:=ah hS.lt;have hT:=am.refl (fun k=>k=G.P) w;have h1:aC G.T [105,110,116] s=false:=bE hi (by decide);have h2:aC G.T [105,102] s=false:=bE hi (by decide);have h3:aC G.T [119,104,105,108,101] s=false:=bE hi (by decide);have Jy:aC G.T [114,101,116,117,114,110] s=false:=bE hi (by decide);have HE:=ah fun W (hW:aN G W s.ad)=>hC W s.ad a s1 hp Xe Jx hW;clear hC hp Jx;go_enter func83,ntmps83;go_wp2_with fail;refine(aE hS [105,110,116]).mono ?_;rintro e w1 ⟨rfl,Jc⟩;rw[h1];have Jh:=aN.below hS Jc;have Jn:=am.of_below hT Jc;clear Jc;go_wp2_with fail;refine(aE Jh [105,102]).mono ?_;rintro e w2 ⟨rfl,Ja⟩;rw[h2];have Je:=aN.below Jh Ja;have Jt:=am.of_below Jn Ja;clear Ja;go_wp2_with fail;refine(aE Je [119,104,105,108,101]).mono ?_;rintro e w3 ⟨rfl,Jd⟩;rw[h3];have Jg:=aN.below Je Jd;have Jf:=am.of_below Jt Jd;clear Jd;obtain⟨W4,Jr⟩:=q_ (w3.alloc (.cells #[.int .i64 6,.string ⟨#[]⟩,.slice none 0 0,.slice none 0 0,.int .i64 0,.int .i64 0] 46));obtain⟨M,hM⟩:=q_ w3.heap.size;have h4:=fW Jg Jf Xc.out 6 Jr hM;have Xa:=ah Jr;have HM:=ah hM;clear Jr hM Jg Jf;go_upto_region 20 with fail;rw[<-Xa.out,<-HM.out];go_wp2_with fail;refine(aE h4.st [114,101,116,117,114,110]).mono ?_;rintro e w5 ⟨rfl,Ji⟩;rw[Jy];have h5:=h4.below Ji;clear Ji;go_wp2_with fail;refine(aE h5.st [111,117,116]).mono ?_;rintro e w6 ⟨rfl,Jj⟩;rw[hi];have h6:=h5.below Jj;clear Jj;obtain⟨⟨Js,Jl⟩,q1,f1,J_⟩:=h6.st.adv (fQ HL.out h6.st.wf hi);obtain⟨W6,Ju⟩:=q_ (w6.setCell ⟨G.P,1,none⟩ (.int .i64 ((s.i:Int)+1)));rw[<-Ju]at Js Jl;have Jp:=h6.step Js Jl;have Xd:=ah Ju;clear Ju Js Jl;go_upto_region 27 with fail;rw[<-Xd.out];clear q1 f1 J_;obtain⟨Xb,Jb⟩:=q_ (W6.setCell ⟨M,0,none⟩ (.int .i64 7));obtain⟨Jk,Xf⟩:=Jp.put 0 (.int .i64 7) Jb;have c1:=(Jp.q (j:=0) rfl).1;have f1:=(Jp.q (j:=0) rfl).2;simp only[List.set_cons_zero,List.set_cons_succ]at Jk;have Jo:=ah Jb;clear Jb;go_upto_region 28 with fail;rw[<-Jo.out];clear c1 f1;go_wp2_with fail;refine(HE.out Xb Jk.st).mono ?_;rintro e w7 ⟨u7,rfl,Jq,z7,t7⟩;obtain⟨ad,cp,rfl,-⟩:=au Jq;have h7:=Jk.step z7 t7;have hB:=Jk;clear z7 t7;obtain⟨X8,Jm⟩:=q_ (w7.setCell ⟨M,2,none⟩ (.slice ad a.length cp));obtain⟨h8,tX⟩:=h7.put 2 (.slice ad a.length cp) Jm;have c1:=(h7.q (j:=2) rfl).1;have f1:=(h7.q (j:=2) rfl).2;simp only[List.set_cons_zero,List.set_cons_succ]at h8;have Jz:=ah Jm;clear Jm;go_upto_region 29 with fail;rw[<-Jz.out];clear c1 f1;have Jv:=hB.row Jq tX;clear Jq tX;go_wp2_with fail;refine(ey HL.out h8.st [59]).mono ?_;rintro e w9 ⟨rfl,z9,t9⟩;have h9:=h8.step z9 t9;have Jw:=hB.row2 Jv t9;have HF:=ah (h9.fin Jw.2 (fun W _=>aM W));clear z9 t9 Jw Jv;have q0:=(h9.q (j:=0) rfl).1;have q1:=(h9.q (j:=1) rfl).1;have q2:=(h9.q (j:=2) rfl).1;have q3:=(h9.q (j:=3) rfl).1;have q4:=(h9.q (j:=4) rfl).1;have q5:=(h9.q (j:=5) rfl).1;clear h9;go_wp2;go_ret;exact HF
end
end Go.Proofs.YtlamjfhhefcohaaGreatDoor
