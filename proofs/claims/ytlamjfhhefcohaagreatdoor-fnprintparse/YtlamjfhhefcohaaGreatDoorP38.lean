import Derived.Test.YtlamjfhhefcohaaGreatDoorP33
import Derived.Test.YtlamjfhhefcohaaGreatDoorP21
import Derived.Deep.CutRange
import Derived.Test.YtlamjfhhefcohaaGreatDoorP20
set_option linter.unusedSectionVars false
variable [Inhabited Go.Proofs.YtlamjfhhefcohaaGreatDoor.Pick]
namespace Go.Proofs.YtlamjfhhefcohaaGreatDoor
open Go.Proofs.Tryz
open Go.RowKit
set_option linter.all false
set_option maxRecDepth 100000
set_option maxHeartbeats 16000000
section
variable{w:World}
theorem oh{P:Program}(base:Nat)(t ty e:TypeId)(i:TypeInfo)(z:Value)(size bytes:Nat)(ht:P.underlying t=some (.slice e))(hi:P.info? e=some i)(hz:i.zero=some z)
  (Ja:i.size=size) (Je:i.bytes=bytes) (Jh:z.cells.size=size) (Jg:0<size) (b:Nat) (Jd:w.ownsRow base e size (.slice (some ⟨b,0,none⟩) 0 0) 0 [])
  (a:Addr) (m c:Nat) (us:List Value) (hl:us.length=m*size) (hc:∀j u,us[j]? =some u->w.cell? (a.add j)=some u) (h1:∀u∈us,u.oneCell'=true)
  (Ji:1<=m) (hm:m<=10000000) (Jf:bytes<=1000) (Jb:base<=w.heap.size):
  ∃cap w',(Builtin.append_ #[t,t] ty #[.slice (some ⟨b,0,none⟩) 0 0,.slice (some a) m c]).run P w=.ok (.slice (some ⟨w.heap.size,0,none⟩) m cap) w'/\w'.ownsRow base e size (.slice (some ⟨w.heap.size,0,none⟩) m cap) m us/\Below w.heap.size w w':=by
 obtain⟨v',w',r1,r2,-,-⟩:=bS (P:=P) (w:=w) base t ty e i z size bytes ht hi hz Ja Je Jh Jg _ 0 [] Jd (some a) m c us (fun e=>by cases e) hl (fun ad had=>by cases had;exact hc) h1 o_ Jf Jb;have Jc:(0+m)*bytes<=140737488355328:=by
  have:(0+m)*bytes<=10000000*1000:=Nat.mul_le_mul o_ Jf
  omega
 have hr:=run_append_grow (P:=P) (w:=w) t ty e i z ht hi hz ⟨b,0,none⟩ 0 0 [] i_ (fun j v h=>by simp at h) a m c us (by rw[Ja];exact hl) hc o_ o_ (by rw[Je];exact growslice_fits o_ o_);rw[r1]at hr;simp only[Result.ok.injEq,Nat.zero_add]at hr;obtain⟨rfl,rfl⟩:=hr;refine⟨_,_,r1,by simpa using r2,(r_.drew).alloc i_ _⟩
theorem km{v:Value}{gs:List Gl}(h:dL w v gs)(hp:0<gs.length):∃ad c,v=.slice (some ad) gs.length c/\∀j u,(bN gs)[j]? =some u->w.cell? (ad.add j)=some u:=by
 obtain⟨a,Jc,rfl,-,-,h⟩:=h;obtain⟨b,Jb,rfl,hc⟩:=h hp;refine⟨⟨b,Jb,none⟩,Jc,rfl,fun j u hu=>?_⟩;have hj:j<gs.length*2:=by rw[<-iQ];exact(List.getElem?_eq_some_iff.1 hu).1
 have e:j=j / 2*2+j%2:=o_;have Ja:j / 2<gs.length:=o_;obtain⟨c0,c1⟩:=hc (j / 2) Ja;have hg:=gD gs (j / 2) (j%2) Ja o_;rw[<-e,hu]at hg;rw[gV];have h2:j%2=0∨j%2=1:=o_;rcases h2 with h2|h2
 ·rw[h2]at hg e;simp[qc]at hg;rw[e,hg];exact c0
 ·rw[h2]at hg e;simp[qc]at hg;rw[e,<-Nat.add_assoc,hg];exact c1
end
section
variable{g M len cap O R4 N fl gl b c b' c' bb bn bc:Nat}{a:Option Addr}{w W W':World}{gs:List Gl}{Q:List FV}{R:List SV}
structure PP (g M:Nat) (a:Option Addr) (len cap O R4 N fl gl:Nat) (w W:World) (b c b' c':Nat) (gs:List Gl) (Q:List FV):Prop where
 box:aR W O [.slice (some ⟨b,0,none⟩) gl c,.slice (some ⟨b',0,none⟩) fl c']
 res:aR W R4 [.slice none 0 0,.slice none 0 0]
 gr:GR N W (.slice (some ⟨b,0,none⟩) gl c) gs
 fr:F2 (fun k=>k<M∨w.heap.size<=k) N W (.slice (some ⟨b',0,none⟩) fl c') Q
 ln:Q.length=fl/\1<=fl/\fl<=20/\gs.length=gl/\1<=gl/\gl<=20
 gn:∀x∈gs,x.name.size<=100000
 ob:∀x∈Q,1<=x.R.length/\x.R.length<=10000/\x.f.params.length<=20/\∀s∈x.f.body,s.e.length<=3000
 cur:dP g a len cap W
 tcs:am (S0 g) w W
 ne:O≠b/\O≠b'/\b≠b'
 lo:(g<M/\M<=w.heap.size)/\w.heap.size<=R4/\R4<N/\N<=O/\O<W.heap.size
theorem PP.past{S:Nat->Prop}(h:PP g M a len cap O R4 N fl gl w W b c b' c' gs Q)(ht:am S W W')(hc:dP g a len cap W')(hS:∀k,S k->(k=g∨w.heap.size<=k)/\k≠O/\k≠R4/\k≠b/\k≠b'):PP g M a len cap O R4 N fl gl w W' b c b' c' gs Q:=by
 obtain⟨l0,l1,l2,l3,l4⟩:=h.lo;have Ja:R4<W.heap.size:=o_;refine⟨h.box.tcs l4 ht (fun e=>(hS _ e).2.1 rfl),h.res.tcs Ja ht (fun e=>(hS _ e).2.2.1 rfl),fx h.gr ht (fun k hk e=>?_),⟨h.fr.row.past ht (fun k hk=>(hS k hk).1.imp (fun e=>by omega) id) (fun k hk e=>?_),h.fr.ok⟩,h.ln,h.gn,h.ob,hc,h.tcs.next ht (fun k hk=>(hS k hk).1),h.ne,⟨l0,l1,l2,l3,by have:=ht.size;omega⟩⟩
 ·simp only[Value.ownBlock,Option.some.injEq]at hk;exact(hS _ e).2.2.2.1 hk.symm
 ·simp only[Value.ownBlock,Option.some.injEq]at hk;exact(hS _ e).2.2.2.2 hk.symm
theorem PP.rng(h:PP g M a len cap O R4 N fl gl w W b c b' c' gs Q):(N<=b/\b<W.heap.size)/\(N<=b'/\b'<W.heap.size):=⟨World.ownsRow.lt h.gr b rfl,h.fr.rng b' rfl⟩
theorem PP.dr(h:PP g M a len cap O R4 N fl gl w W b c b' c' gs Q)(hd:Dr g a len cap (S0 g) W W'):PP g M a len cap O R4 N fl gl w W' b c b' c' gs Q:=
 h.past hd.tcs hd.cur (fun k hk=>by
  have e:k=g:=hk;have:=h.rng
  have:=h.lo
  exact⟨.inl e,o_,o_,o_,o_⟩)
theorem PP.below(h:PP g M a len cap O R4 N fl gl w W b c b' c' gs Q)(hb:Below W.heap.size W W'):PP g M a len cap O R4 N fl gl w W' b c b' c' gs Q:=
 h.past (hb.tcs (S:=fun _=>False)) (h.cur.below hb) (fun k hk=>hk.elim)
structure QP (g M:Nat) (a:Option Addr) (len cap O R4 N fl gl:Nat) (w W:World) (b c b' c':Nat) (gs:List Gl) (Q:List FV) (bb bn bc:Nat) (R:List SV):Prop where
 pp:PP g M a len cap O R4 N fl gl w W b c b' c' gs Q
 br:BR (fun k=>k<M∨w.heap.size<=k) N W (.slice (some ⟨bb,0,none⟩) bn bc) R
 rl:R.length=bn/\1<=bn/\bn<=10000
 es:∀x∈R,x.s.e.length<=3000
 bne:bb≠O/\bb≠b/\bb≠b'
theorem QP.dr(h:QP g M a len cap O R4 N fl gl w W b c b' c' gs Q bb bn bc R)(hd:Dr g a len cap (S0 g) W W'):QP g M a len cap O R4 N fl gl w W' b c b' c' gs Q bb bn bc R:=
 ⟨h.pp.dr hd,⟨h.br.row.past hd.tcs (fun k hk=>.inl (by have e:k=g:=hk;have:=h.pp.lo;omega)) (fun k hk e=>by
  have e:k=g:=e;have:=(h.br.rng k hk).1
  have:=h.pp.lo
  omega),h.br.ok⟩,h.rl,h.es,h.bne⟩
theorem PP.copy(h:PP g M a len cap O R4 N fl gl w W b c b' c' gs Q)(f:Nat)(hf:f<fl)(ty:TypeId):
  ∃ba bo bn bc,W.cell? ⟨b',f*3+2,none⟩=some (.slice (some ⟨ba,bo,none⟩) bn bc)/\(W.alloc (.cells #[] 46)).cell? ⟨b',f*3+2,none⟩=some (.slice (some ⟨ba,bo,none⟩) bn bc)/\∃bb cap' w',(Builtin.append_ #[41,41] ty #[.slice (some ⟨W.heap.size,0,none⟩) 0 0,.slice (some ⟨ba,bo,none⟩) bn bc]).run prog (W.alloc (.cells #[] 46))=.ok (.slice (some ⟨bb,0,none⟩) bn cap') w'/\∃R,QP g M a len cap O R4 N fl gl w w' b c b' c' gs Q bb bn cap' R:=by
 obtain⟨l0,l1,l2,l3,l4⟩:=h.lo;obtain⟨q1,q2,q3,q4,q5,q6⟩:=h.ln;obtain⟨e1,e2,e3⟩:=h.ne;obtain⟨⟨s1,s2⟩,s3,s4⟩:=h.rng;obtain⟨i0,hi,Jk,Jn,Jl⟩:=info_parts gz;have Jh:f<Q.length:=o_;have hm:Q[f]∈Q:=g_ Jh;obtain⟨o1,o2,-,o4⟩:=h.ob _ hm;have Jb:=fun W' (hW':am (fun k=>k<M∨w.heap.size<=k) W W')=>h.fr.row.st W' (hW'.mono fun k hk=>.inl hk) Q[f] hm;obtain⟨⟨va,vc,ev,-,-,Jd⟩,-⟩:=(Jb W (am.refl _ _)).2.1;obtain⟨ba,bo,rfl,-⟩:=Jd o_;have Jf:W.ownsRow N 43 3 (.slice (some ⟨b',0,none⟩) fl c') fl (a_ Q):=by have:=h.fr.row.row;rw[q1]at this;exact this
 have Je:W.cell? ⟨b',f*3+2,none⟩=some Q[f].vb:=by
  rw[World.ownsRow.cellAt Jf (f*3+2) o_,eJ Q f 2 Jh o_];rfl
 rw[ev]at Je;have Ji:Bl W (W.alloc (.cells #[] 46)):=aD _ _;refine⟨ba,bo,Q[f].R.length,vc,Je,(World.cell?_alloc_past _ b' _ s4).trans Je,?_⟩;have Jt:(W.alloc (.cells #[] 46)).heap.size=W.heap.size+1:=i_;have hn:N<=W.heap.size:=o_;have Jg:(W.alloc (.cells #[] 46)).ownsRow N 46 6 (.slice (some ⟨W.heap.size,0,none⟩) 0 0) 0 []:=World.ownsRow_lit W #[] 0 hn d_ rfl;have Jm:∀W',am (fun k=>k<M∨w.heap.size<=k) W W'->∀j u,(bz Q[f].R)[j]? =some u->W'.cell? ((⟨ba,bo,none⟩:Addr).add j)=some u:=fun W' hW' j u hu=>by
  obtain⟨⟨Jp,Js,Jc,-,-,Ja⟩,-⟩:=(Jb W' hW').2.1;obtain⟨Jq,Jr,e,Jo⟩:=Ja o_;rw[ev]at Jc;simp only[Value.slice.injEq]at Jc;rw[e]at Jc;simp only[Option.some.injEq,Addr.mk.injEq]at Jc;obtain⟨⟨rfl,rfl,-⟩,-,-⟩:=Jc;rw[gV];exact Jo j u hu
 obtain⟨cap',w',r,hr,hb⟩:=oh (P:=prog) N 41 ty 46 i0 _ 6 _ underlying41 hi Jk Jn Jl rfl d_ W.heap.size Jg ⟨ba,bo,none⟩ Q[f].R.length vc (bz Q[f].R) (flatS_len _) (Jm _ Ji.tcs) (iK _ fun q hq=>by
  have hp:=(Jb W (am.refl _ _)).2.1.2 q hq;exact⟨hp.1.cell1,hp.2.cell1⟩) o1 o_ d_ o_
 have Jj:Bl W w':=Ji.trans (hb.mono o_);refine⟨_,cap',w',r,Q[f].R,h.below Jj,⟨⟨hr,fun W' hW'=>?_⟩,fun x hx=>?_⟩,⟨rfl,o1,o2⟩,(fun x hx=>by
  have e3:=(Jb W (am.refl _ _)).2.2;exact o4 x.s (by rw[<-e3];exact List.mem_map.2 ⟨x,hx,rfl⟩)),⟨o_,o_,o_⟩⟩
 ·exact(Jb W' ((Jj.tcs (S:=fun k=>k<M∨w.heap.size<=k)).next hW' fun k hk=>by
   rcases hk with hk|hk
   ·exact .inl hk
   ·simp only[Value.ownBlock,Option.some.injEq]at hk;exact .inl (.inr o_))).2.1.2
 ·have e3:=(Jb W (am.refl _ _)).2.2;exact(h.fr.ok _ hm).st x.s (by rw[<-e3];exact List.mem_map.2 ⟨x,hx,rfl⟩)
theorem Al{W0 Y:World}{fb Jg:Nat}{vg vf:Value}{t:Tr}(hB:Below W0.heap.size W0 Y)(og:Y.ownsRow N 74 2 (.slice (some ⟨b,0,none⟩) gl c) gl (bN t.globals))(Jf:Y.ownsRow N 43 3 (.slice (some ⟨b',0,none⟩) fl c') fl (a_ Q))(Jz:N<=O)(hO:Y.heap[O]? =some (.cells #[.slice none 0 0,.slice none 0 0] 26 (0,0)))(Xa:N=W0.heap.size)(Xb:R4=w.heap.size+1)(Jx:W0.heap.size=w.heap.size+2)(Jk:Below w.heap.size w W0)(Jn:Lo g a len (S0 g) w.heap.size)(h4:aR W0 R4 [.slice none 0 0,.slice none 0 0])(Jy:dP g a len cap W0)(Je:TD (fun k=>k<M) w vg vf t)(hQ:Q.length=t.funcs.length/\Q.map (fun q:FV=>q.f)=t.funcs)
  (hM:g<M/\M<=w.heap.size) (Jl:∀W,am (fun k=>k<M) w W->(∀j u,(a_ Q)[j]? =some u->W.cell? ⟨fb,Jg+j,none⟩=some u)/\A4 Q W) (Jo:1<=gl/\gl<=20) (Jm:1<=fl/\fl<=20) (Ja:gl=t.globals.length) (Jd:fl=t.funcs.length):
  aR Y O [.slice none 0 0,.slice none 0 0]/\∃W1,W1=(Y.setCell ⟨O,0,none⟩ (.slice (some ⟨b,0,none⟩) gl c)).setCell ⟨O,1,none⟩ (.slice (some ⟨b',0,none⟩) fl c')/\PP g M a len cap O R4 N fl gl w W1 b c b' c' t.globals Q:=by
 have Jb:b≠O/\b'≠O:=by
  obtain⟨-,h|⟨g1,Jw,Js,e1,-,h1,-⟩⟩:=og
  ·simp at h
  obtain⟨-,h|⟨g2,Jv,Jr,e2,-,h2,-⟩⟩:=Jf
  ·simp at h
  simp only[Value.slice.injEq,Option.some.injEq,Addr.mk.injEq]at e1 e2;obtain⟨⟨rfl,-,-⟩,-,-⟩:=e1;obtain⟨⟨rfl,-,-⟩,-,-⟩:=e2;refine⟨fun e=>?_,fun e=>?_⟩
  ·rw[e,hO]at h1;simp at h1
  ·rw[e,hO]at h2;simp at h2
 have Ju:O<Y.heap.size:=(Array.getElem?_eq_some_iff.1 hO).1;have fO:aR Y O [.slice none 0 0,.slice none 0 0]:=by
  intro j u hj;have hz:Y.frozen? ⟨O,j,none⟩=false:=by
   unfold World.frozen?;simp only[hO];simp
  have Jp:Y.cell? ⟨O,j,none⟩=some u:=by
   unfold World.cell?;simp only[hO];match j with
   | 0=>simpa using hj
   | 1=>simpa using hj
   | j+2=>simp at hj
  exact⟨Jp,hz⟩
 obtain⟨W1,Jc⟩:=q_ ((Y.setCell ⟨O,0,none⟩ (.slice (some ⟨b,0,none⟩) gl c)).setCell ⟨O,1,none⟩ (.slice (some ⟨b',0,none⟩) fl c'));have Jt:PP g M a len cap O R4 N fl gl w W1 b c b' c' t.globals Q:=by
  have tO:am (fun k=>k=O) Y W1:=by rw[Jc];exact((am.refl (fun k=>k=O) Y).setCell (p:=⟨O,0,none⟩) rfl _).setCell (p:=⟨O,1,none⟩) rfl _
  have J_:=Jn.gl;have Jh:Bl w Y:=Jk.trans (hB.mono Jk.size);have hY:W0.heap.size<=Y.heap.size:=hB.size;have Jj:=fx og tO (fun k hk e=>by simp only[Value.ownBlock,Option.some.injEq]at hk;have e:k=O:=e;exact Jb.1 (hk.trans e));have Ji:=fx Jf tO (fun k hk e=>by simp only[Value.ownBlock,Option.some.injEq]at hk;have e:k=O:=e;exact Jb.2 (hk.trans e));have Jq:b≠b':=by
   intro e;subst e;obtain⟨-,h|⟨g1,Jw,Js,e1,-,h1,-⟩⟩:=og
   ·simp at h
   obtain⟨-,h|⟨g2,Jv,Jr,e2,-,h2,-⟩⟩:=Jf
   ·simp at h
   simp only[Value.slice.injEq,Option.some.injEq,Addr.mk.injEq]at e1 e2;obtain⟨⟨rfl,-,-⟩,-,-⟩:=e1;obtain⟨⟨rfl,-,-⟩,-,-⟩:=e2;rw[h1]at h2;simp at h2
  refine⟨by rw[Jc];exact(fO.set 0 _).set 1 _,(h4.below hB).tcs o_ tO o_,by rw[Ja]at Jj;rw[Ja];exact Jj,⟨⟨by rw[hQ.1,<-Jd];exact Ji,fun W hW=>?_⟩,fun x hx=>(Je.ok x.f (by rw[<-hQ.2];exact List.mem_map.2 ⟨x,hx,rfl⟩)).two⟩,⟨o_,Jm.1,Jm.2,Ja.symm,Jo.1,Jo.2⟩,Je.gn,fun x hx=>?_,?_,?_,⟨fun e=>Jb.1 e.symm,fun e=>Jb.2 e.symm,Jq⟩,⟨hM,o_,o_,Jz,l_ Ju tO.size⟩⟩
  ·exact(Jl W ((Jh.tcs (S:=fun k=>k<M)).next (tO.mono (T:=fun k=>w.heap.size<=k) fun k hk=>by omega) (fun k hk=>.inr hk) |>.next hW (fun k hk=>by
    rcases hk with(hk|hk)|hk
    ·exact .inl hk
    ·exact .inr hk
    ·simp only[Value.ownBlock,Option.some.injEq]at hk;have:=(World.ownsRow.lt Ji b' rfl).1
     exact .inr o_))).2
  ·have k:=Je.ok x.f (by rw[<-hQ.2];exact List.mem_map.2 ⟨x,hx,rfl⟩);have e:=((Jl w (am.refl _ _)).2 x hx).2.2;have k1:=k.bl;have k2:=k.bu;rw[<-e,List.length_map]at k1 k2;exact⟨k1,k2,k.pl,fun s hs=>(k.st s hs).1.1⟩
  ·exact(Jy.below hB).new Jn tO (fun k hk=>by omega)
  ·exact(Jh.tcs (S:=S0 g)).next tO (fun k hk=>.inr o_)
 exact⟨fO,W1,Jc,Jt⟩
end
theorem uD{w w':World}{B size n:Nat}{e:TypeId}{v:Value}{xs:List Value}(h:w.ownsRow B e size v n xs)(hk:∀g,v.ownBlock=some g->w'.heap[g]? =w.heap[g]?):w'.ownsRow B e size v n xs:=by
 obtain⟨hx,h|⟨g,Jb,Ja,rfl,h1,h2,h3⟩⟩:=h
 ·exact⟨hx,.inl h⟩
 ·exact⟨hx,.inr ⟨g,Jb,Ja,rfl,h1,(hk g rfl).trans h2,h3⟩⟩
theorem yk(g:Nat)(a:Option Addr)(len cap:Nat)(w:World)(hl:len<=1048576)(hL:Lo g a len (S0 g) w.heap.size)(hc:dP g a len cap w):
  Calls prog 68 #[.pointer (some ⟨g,0,none⟩)] w fun e w'=>∃vg vf,e=.returned (.agg #[vg,vf])/\(∃t,TD (fun k=>k<w.heap.size) w' vg vf t)/\Dr g a len cap (S0 g) w w':=by
 have Yj:S0 g g:=rfl;have Jm:=ah hL;obtain⟨W1,Do,b0,b1,b2,b3,hb,hs⟩:=qT w;have Dc:=ah Do;obtain⟨R0,Ok⟩:=q_ w.heap.size;obtain⟨GL,Vn⟩:=q_ (w.heap.size+1);obtain⟨T,hT⟩:=q_ (w.heap.size+2);obtain⟨NB,Ug⟩:=q_ (w.heap.size+3);obtain⟨Zs,Yz,HT,Vi⟩:=h4 Ok Vn hT Ug;rw[<-Ok]at b0;rw[<-Vn]at b1;rw[<-hT,<-Vn]at b2;rw[<-Ug]at b3;obtain⟨Pz,Dl,Ed,Ji,Pv,Pe⟩:=h6 b0 b1 b2 b3 hb hs;have Pw:Hid (dP g a len cap W1):=hc.below hb;clear Do b0 b1 b2 b3 hb hs Ok Vn hT Ug hc hL;go_enter func68,ntmps68;go_upto_region 3 with fail;rw[<-Dc.out,<-Vi.out,<-HT.out,<-Yz.out,<-Zs.out];clear Dc;go_wp2_with fail;refine(aI g a len cap (S0 g) _ _ hl Yj Pw.out o_).mono ?_;rintro e w1 ⟨n,rfl,hn,Vy⟩;obtain⟨q,hq⟩:=q_ w1.heap.size;obtain⟨W2,Yb⟩:=q_ (w1.alloc (.cells #[.slice none 0 0,.slice none 0 0,.slice none 0 0,.slice none 0 0,.int .i64 0] 130));obtain⟨Em,Hq⟩:=h2 Yb hq;have h12:am (S0 g) W1 W2:=by rw[Yb];exact Vy.tcs.alloc _
 have Dj:g<w.heap.size:=Jm.out.gl;have Jw:Hid (T=w.heap.size+2/\GL=w.heap.size+1/\NB=w.heap.size+3/\R0=w.heap.size/\w.heap.size+4<=q/\q<W2.heap.size/\g<w.heap.size):=⟨HT,Yz,Vi,Zs,by rw[hq,<-Pe.out];exact Vy.tcs.size,by rw[hq,Yb];simp,Dj⟩;have Vq:=Pe.out;have nT:¬S0 g T:=fun e=>by have:T=g:=e;have:=HT.out;omega
 have nG:¬S0 g GL:=fun e=>by have:GL=g:=e;have:=Yz.out;omega
 have nN:¬S0 g NB:=fun e=>by have:NB=g:=e;have:=Vi.out;omega
 have nR:¬S0 g R0:=fun e=>by have:R0=g:=e;have:=Zs.out;omega
 have Pd:Hid (aR W2 R0 [.slice none 0 0,.slice none 0 0]):=Pz.out.tcs (by have:=Zs.out;omega) h12 nR;have Eh:Hid (aR W2 GL lM):=Dl.out.tcs (by have:=Yz.out;omega) h12 nG;have Po:Hid (aR W2 T [.slice (some ⟨GL,0,none⟩) 4 4,.slice none 0 0]):=Ed.out.tcs (by have:=HT.out;omega) h12 nT;have Pl:Hid (aR W2 NB n7):=Ji.out.tcs (by have:=Vi.out;omega) h12 nN;have Dd:Hid (aR W2 q [.slice none 0 0,.slice none 0 0,.slice none 0 0,.slice none 0 0,.int .i64 0]):=by rw[Yb,hq];exact aJ w1 _ _ d_
 have Uu:Hid (dP g a len cap W2):=by rw[Yb];exact Vy.cur.alloc _
 have Ol:Hid (Dr g a len cap (S0 g) w W2):=⟨Uu,(Pv.out.tcs (S:=S0 g)).trans h12⟩;clear Vy hq Yb h12 Vq nT nG nN nR Pz Dl Ed Ji Pw Pv Pe Dj;go_upto_region 5 with fail;rw[<-Em.out,<-Hq.out];clear Em Hq Zs Yz HT Vi;go_wp2;go_loopw[7,8,9,10,11] (fun i fp ip np kk wr=>∃j:Nat,(j:Int)<=n/\i=.int .i64 j/\LI g a len cap T q GL W2.heap.size W2 wr j) (fun i _ _ _ _ _=>n.toNat-(RowKit.intOf i).toNat)
 case atStart=>
  refine⟨0,o_,rfl,Uu,am.refl _ _,none,0,0,[],Po,fr_none,rfl,none,0,0,none,0,0,[],[],Dd,fun W hW=>⟨⟨none,0,rfl,n_,o_,fun h=>absurd h (Nat.lt_irrefl _)⟩,⟨none,0,rfl,fun h=>absurd h (Nat.lt_irrefl _)⟩⟩,rfl,rfl,(fun x hx=>by cases hx),fun x hx=>by cases hx⟩
 case round=>
  obtain⟨j,hj,rfl,Py⟩:=hrel;rename World=>Wr
  have Pb:=ah Py;obtain⟨-,Yd,fa,fn,fc,Q,Vo,Yr,Pg,ca,cn,cc,pa,pn,pc,cs,ps,Xn,Vp,Od,Un,Uc,Vt⟩:=Py;by_cases hlt:(j:Int)<n
  ·obtain⟨eT,eG,eN,eR,Ao,Ad,eg⟩:=Jw.out;have Oj:∀k,k=GL∨k=NB∨k=R0->¬Sx g T q k:=fun k hk e=>by rcases e with e|e|e <;> omega
   have Ec:aR Wr NB n7:=Pl.out.tcs o_ Yd (Oj _ (.inr (.inl rfl)));obtain⟨nm,Gb,Zk⟩:=xQ Ec (j:=j) o_;have Gk:(j:Int)<4:=o_;have Zf:=ah Zk;have Aw:W2.heap.size<=Wr.heap.size:=Yd.size;obtain⟨F,hF⟩:=q_ Wr.heap.size;obtain⟨I,hI⟩:=q_ (Wr.heap.size+1);obtain⟨W3,Jh⟩:=q_ ((Wr.alloc (.cells #[.string nm,.slice none 0 0,.slice none 0 0] 43)).alloc (.cells #[.slice ca cn cc,.slice pa pn pc,.slice none 0 0,.slice none 0 0,.int .i64 0] 130));obtain⟨Zq,HF,HI⟩:=h3 Jh hF hI;have q0:=(Xn 0 _ rfl).1;have q1:=(Xn 1 _ rfl).1;have Yo:=Xn.below ((Below.refl Wr.heap.size Wr).alloc n_ (.cells #[.string nm,.slice none 0 0,.slice none 0 0] 43));have Be:=(Yo 0 _ rfl).1;have Bq:=(Yo 1 _ rfl).1;have Ys:Bl Wr W3:=by rw[Jh];exact(aD _ _).alloc i_ _
   have Vk:W3.heap.size=Wr.heap.size+2:=by rw[Jh];simp
   have Ji:Hid (Bl Wr W3/\W3.heap.size=Wr.heap.size+2):=⟨Ys,Vk⟩;have Ay:Hid (aR W3 F [.string nm,.slice none 0 0,.slice none 0 0]):=by
    rw[Jh,hF];exact(aJ Wr _ _ i_).below (aD _ _)
   have Aq:Hid (aR W3 I [.slice ca cn cc,.slice pa pn pc,.slice none 0 0,.slice none 0 0,.int .i64 0]):=by
    rw[Jh,hI];have:=aJ (Wr.alloc (.cells #[.string nm,.slice none 0 0,.slice none 0 0] 43)) #[.slice ca cn cc,.slice pa pn pc,.slice none 0 0,.slice none 0 0,.int .i64 0] 130 i_;simp only[World.size_alloc]at this;exact this
   have An:Hid (∀j,W3.frozen? ⟨I,j,none⟩=false):=fun j=>by
    rw[Jh,hI];have e:Wr.heap.size+1=(Wr.alloc (.cells #[.string nm,.slice none 0 0,.slice none 0 0] 43)).heap.size:=i_;rw[e];simp
   have Up:Hid (dP g a len cap W3):=Pb.out.cur.below Ys;obtain⟨Vm,Jk⟩:=h2 Vo Yr;have Xu:Hid (Q.length=j/\cs.length=j/\ps.length=j):=⟨Pg,Od,Un⟩;obtain⟨Ax,Oi⟩:=h2 Xn Vp;have Uw:Hid ((∀x∈ps,0<=x/\x<=6)/\∀x∈cs,x.size<=100000):=⟨Uc,Vt⟩;obtain⟨Zx,Ar⟩:=h2 Yd Oj;clear Yd Vo Yr Pg Xn Vp Od Un Uc Vt Oj Ec Zk hF hI Jh Yo Ys Vk eT eG eN eR Ao Ad eg;go_upto_region 10 with fail;rw[<-Zq.out,<-HI.out,<-HF.out];clear q0 q1 Be Bq Zq Gb;go_wp2_with fail;refine(aI g a len cap (S0 g) _ _ hl Yj Up.out o_).mono ?_;rintro e w4 ⟨x4,rfl,Bf,Yx⟩;have Uy:=ah Yx;clear Yx;go_wp2_with fail;refine(eZ g a len cap (S0 g) _ _ hl Yj Uy.out.cur o_).mono ?_;rintro e w5 ⟨b5,rfl,Dh⟩;have Pa:Hid (Dr g a len cap (S0 g) W3 w5):=Uy.out.trans Dh;clear Dh Uy;go_upto_if 42 with fail
   go_cut [10]from 24 to 99 (fun npv W=>∃np:Nat,npv=.int .i64 np/\np<=6/\W=w5)
   case first=>
    cases b5
    ·go_wp2;go_meet
     case rel=>exact⟨x4.toNat,by rw[show((x4.toNat:Nat):Int)=x4 by omega],o_,rfl⟩
    ·go_wp2;go_meet
     case rel=>exact⟨6,rfl,o_,rfl⟩
   case rest=>
    obtain⟨np,rfl,Gg,Es⟩:=hcut;rw[Es];clear Es;have Yv:F<W3.heap.size/\g<F/\W3.heap.size=F+2:=by have:=Ji.out.2;have:=HF.out;have h7:=Jw.out;omega
    have nF:¬S0 g F:=fun e=>by have:F=g:=e;omega
    have Ak:Hid (Lo g a len (S0 g) W3.heap.size):=Jm.out.mono (by have:=Ji.out.2;have:=Ol.out.tcs.size;have:=Zx.out.size;omega);have Eu:Hid (PI g a len cap F nm W3 w5 0):=⟨Pa.out.cur,Pa.out.tcs.mono (fun k hk=>.inl hk),none,0,0,[],Ay.out.tcs Yv.1 Pa.out.tcs nF,World.ownsRow_nil _ _ _ _,rfl,fun x hx=>by cases hx⟩;clear nF;go_wp2;go_loopw[11] (fun kv wx=>∃k:Nat,k<=np/\kv=.int .i64 k/\PI g a len cap F nm W3 wx k) (fun kv _=>np-(RowKit.intOf kv).toNat)
    case atStart=>exact⟨0,y_,rfl,Eu⟩
    case round=>
     obtain⟨k,hk,rfl,Yt⟩:=hrel;by_cases hkn:k<np
     ·obtain⟨px,pm,py,Ei⟩:∃px pm py,wr.cell? ⟨F,1,none⟩=some (.slice px pm py):=by obtain⟨-,-,x,y,z,qs,hf,-⟩:=Yt;exact⟨x,y,z,(hf 1 _ rfl).1⟩
      have Gi:(k:Int)<(np:Int):=o_;have Bc:F<wr.heap.size:=l_ Yv.1 Yt.tcs.size;have Gc:(wr.alloc (.cells #[.string ⟨#[112]⟩,.string ⟨#[113]⟩] 9)).cell? ⟨F,1,none⟩=some (.slice px pm py):=(World.cell?_alloc_past _ F 1 Bc).trans Ei;have Vq:(tx (Lib.decDigits k)).size<=50:=by
       rw[tx_size];have:=kz k k n_;omega
      have Uz:Hid (∀W:World,Calls prog 43 #[.int .i64 k] W fun e w'=>e=.returned (.string (tx (Lib.decDigits k)))/\Bl W w'):=fun W=>jw k k n_ o_ W;generalize tx (Lib.decDigits k)=A at Vq Uz;have Br:((A.size:Nat):Int)<=50:=o_
      have Ps:=qU Yt ⟨Yv.2.1,Yv.1⟩ (Jm.out.mono (by have:=Jw.out;have:=HF.out;omega)) o_ A o_ px pm py Ei (.cells #[.string ⟨#[112]⟩,.string ⟨#[113]⟩] 9);have Yc:=ah Ps;have Ef:Hid (Calls prog 67 #[.pointer (some ⟨g,0,none⟩),.slice (some ⟨wr.heap.size,0,none⟩) 2 2] ((wr.alloc (.cells #[.string ⟨#[112]⟩,.string ⟨#[113]⟩] 9)).drew) fun e w'=>∃s,s∈[⟨#[112]⟩,⟨#[113]⟩]/\e=.returned (.string s)/\Dr g a len cap (S0 g) ((wr.alloc (.cells #[.string ⟨#[112]⟩,.string ⟨#[113]⟩] 9)).drew) w'):=eh g a len cap (S0 g) [⟨#[112]⟩,⟨#[113]⟩] _ (wr.drew.alloc (.cells #[.string ⟨#[112]⟩,.string ⟨#[113]⟩] 9)) hl Yj (Yt.cur.below ((r_.drew).alloc n_ _)) (jh (w:=wr.drew) _ _ 2 rfl rfl d_ (fun b hb=>by have e:b=g:=hb;have:wr.drew.heap.size=wr.heap.size:=rfl;omega)) d_;clear Ps Vq Yt Eu;go_upto_region 16 with fail;go_region_law
       (first
       | (go_simp;(with_reducible refine Calls.mono Ef.out ?_);intro x w6 hx;obtain⟨s,Ui,Zh,Dp⟩:=hx;subst Zh;have P_:s.size<=1:=(by simp at Ui;rcases Ui with rfl|rfl <;> decide);have Bj:((s.size:Nat):Int)<=1:=o_;have z6:=(Yc.out w6 s w6 P_ Dp r_);obtain⟨-,-,-,-,-,⟨z6,-,-⟩,-⟩:=z6;clear Ui)
       | (go_simp;(with_reducible refine Calls.mono (Uz.out _) ?_);intro x w7 hx;obtain⟨Zh,Ew⟩:=hx;subst Zh;have Gd:¬9223372036854775807<s.size+A.size:=o_;obtain⟨va,vn,vc,w8,r8,⟨-,z7,Ae⟩,y8,f8,Di⟩:=Yc.out w6 s w7 P_ Dp Ew;clear Ew)
       | (refine bm rfl _ _ _ rfl _ _ _ _ rfl rfl r8 ?_))
      all_goals (
       have Oc:=ah Di;clear Di r8 y8 f8 z7 Ae z6 Yc Ef Uz;go_wp2;go_roundw
       case rel=>exact⟨k+1,o_,by go_num,Oc⟩
       case measure=>simp[RowKit.intOf];omega)
     ·obtain rfl:k=np:=by omega
      obtain⟨Pq,Vw,px,pm,py,qs,Og,Ua,Bm,Uk⟩:=Yt;have hQ:=Xu.out;have Jq:=Jw.out;have Yw:=HF.out;have Yu:=HI.out;have Bt:j<=3:=o_;have Xf:∀b,(Value.slice fa fn fc).ownBlock=some b->q<b/\b<Wr.heap.size:=fun b hb=>⟨by have:=(Jk.out.rng b hb).1;omega,(Jk.out.rng b hb).2⟩;obtain⟨Yn,Uh⟩:=z_ (T:=T) (q:=q) Oi.out ⟨o_,o_⟩ Uw.out Ji.out.1 Yw Yu Ji.out.2 Aq.out An.out Pq Vw Ua o_ Uk ⟨o_,o_,o_,o_⟩ (Jm.out.mono o_) o_ Xf;have y1:=(Og 1 _ rfl).1;have i2:=(Uh 2 _ rfl).1;have Bg:=(Uh 2 _ rfl).2;obtain⟨W10,Jo⟩:=q_ (wr.setCell ⟨I,2,none⟩ (.slice px pm py));have Vl:=ah Jo;rw[<-Jo]at Yn;have Ds:F<wr.heap.size:=l_ Yv.1 Vw.size;have Zt:am (fun b=>b=I) wr W10:=by rw[Jo];exact(am.refl (fun b=>b=I) wr).setCell (p:=⟨I,2,none⟩) rfl _
      have Xv:=ah Yn;have Vg:Hid (aR W10 F [.string nm,.slice px pm py,.slice none 0 0]):=Og.tcs Ds Zt o_;have X_:Hid (am (fun b=>b=g∨b=F∨b=I) W3 W10):=(Vw.mono fun b hb=>hb.imp id .inl).trans (Zt.mono fun b hb=>.inr (.inr hb));have Px:Hid (∀(S:Nat->Prop) W,am S W10 W->(∀b,S b->b<W3.heap.size∨W10.heap.size<=b)->Strs W (.slice px pm py) qs):=fun S W hW hS=>e_ (uD Ua (fun b hb=>by
       obtain⟨h1,h2⟩:=World.ownsRow.lt Ua b hb;have h10:=Zt.size;rw[hW.block b o_ (fun s=>by have:=hS b s;have Bs:W10.heap.size=wr.heap.size:=(by rw[Jo];simp);omega),Zt.block b h2 o_]))
      have Bd:Hid (qs.length<=6/\∀x∈qs,x.size<=100000):=⟨o_,Uk⟩;clear Jo Yn Pq Vw Og Ua Bm Uk Zt Ds Uh Yw Yu Xf hQ Jq;go_upto_region 18 with fail;rw[<-Vl.out];clear y1 i2 Bg Vl;go_wp2_with fail;refine(aI g a len cap (S0 g) _ _ hl Yj Xv.out.cur o_).mono ?_;rintro e Jx ⟨Da,rfl,At,Ym⟩;have Vc:=ah (Xv.out.dr Ym);obtain⟨nb,Zd⟩:∃nb:Nat,1+Da=nb:=⟨(1+Da).toNat,o_⟩;have Ov:1<=nb/\nb<=4:=o_;have Oa:=ah Zd;have Jd:mK 2=31:=rfl;have Js:Hid (am (S0 g) W10 Jx):=Ym.tcs;clear Ym Zd;go_wp2_with fail;refine(gE g a len cap I 2 o_ (pK g a len cap I hl 2 o_) nb o_ _ _ Oa.out rfl (S5 g T q F I (.slice fa fn fc)) _ 10 Jx Vc.out (by rw[Jd];omega)).mono ?_;rintro e w12 ⟨vb,rfl,Rb,Yi,Xd,Ue,Yf,Yg⟩;rw[Jd]at Xd Yf;obtain⟨ba,bn,bc,rfl⟩:∃x y z,vb=.slice x y z:=by obtain⟨x,y,e⟩:=Xd.shape;exact⟨x,_,y,e⟩
      have Jq:=Jw.out;have Yw:=HF.out;have Yu:=HI.out;have Yl:=Ji.out;have Jf:am (Sq g I) W10 w12:=(Js.out.mono iX).trans Yg;have Uj:W3.heap.size<=W10.heap.size:=X_.out.size;have Xe:aR w12 F [.string nm,.slice px pm py,.slice none 0 0]:=Vg.out.tcs o_ Jf (fun e=>by rcases e with e|e <;> omega);have z2:=(Xe 2 _ rfl).1;have E_:=(Xe 2 _ rfl).2;obtain⟨W13,Jv⟩:=q_ (w12.setCell ⟨F,2,none⟩ (.slice ba bn bc));have Zw:=ah Jv;have tF:am (fun b=>b=F) w12 W13:=by rw[Jv];exact(am.refl (fun b=>b=F) w12).setCell (p:=⟨F,2,none⟩) rfl _
      have Um:W10.heap.size<=Jx.heap.size:=Js.out.size;have Xz:Hid (aR W13 F [.string nm,.slice px pm py,.slice ba bn bc]):=by rw[Jv];exact Xe.set 2 _
      have Zg:Hid (SR Jx.heap.size W13 (.slice ba bn bc) Rb (nb*31)):=Xd.tcs tF (fun b hb=>by omega);have Jb:Hid (GS g a len cap I (Sv (S5 g T q F I (.slice fa fn fc)) (.slice ba bn bc)) W13 Yi (10+nb*31)):=by rw[Jv];exact Yf.side (.inl (.inr (.inr (.inr (.inl rfl))))) o_ o_
      have Za:Hid (am (fun b=>b=g∨b=F∨b=I) W3 W13):=(X_.out.trans (Jf.mono fun b hb=>by rcases hb with h|h;exact .inl h;exact .inr (.inr h))).trans (tF.mono fun b hb=>.inr (.inl hb));have Vf:Jx.heap.size<=W13.heap.size:=by have:=Yg.size;have:=tF.size;omega
      have Xh:Hid (∀(S:Nat->Prop) W,am S W13 W->(∀b,S b->b<W3.heap.size∨Jx.heap.size<=b)->Strs W (.slice px pm py) qs):=fun S W hW hS=>Px.out (fun b=>S b∨b=g∨b=I∨b=F) W ((((Jf.mono (T:=fun b=>S b∨b=g∨b=I∨b=F) fun b hb=>by rcases hb with h|h;exact .inr (.inl h);exact .inr (.inr (.inl h)))).trans (tF.mono fun b hb=>.inr (.inr (.inr hb)))).trans (hW.mono fun b hb=>.inl hb)) (fun b hb=>by
       rcases hb with h|h|h|h
       ·have:=hS b h;omega
       ·omega
       ·omega
       ·omega)
      have Bo:W3.heap.size<=Jx.heap.size:=o_;have Uo:=ah (uw (g:=g) (a:=a) (len:=len) (cap:=cap) Xz.out Zg.out ⟨o_,Vf⟩ Yv.2.1 (Jm.out.mono o_) o_);have Ot:Hid (Calls prog 105 #[.pointer (some ⟨g,0,none⟩),.agg #[Yi.vc,Yi.vp,Yi.vs,Yi.vl,.int .i64 Yi.m]] W13.drew fun e w'=>∃u ns,e=.returned u/\aF W13.heap.size w' u ns/\bI ns 400/\Dr g a len cap (S0 g) W13.drew w'):=dJ g a len cap (S0 g) Yi (10+nb*31) W13.drew hl Jb.out.lo0 (Jb.out.below r_.drew).cur (Jb.out.below r_.drew).ok0 o_;have c0:=Jb.out.box.c0;have c1:=Jb.out.box.c1;have c2:=Jb.out.box.c2;have c3:=Jb.out.box.c3;have c4:=Jb.out.box.c4;have f2:=(Xz.out 2 _ rfl).1;clear Xd Ue Yf Yg Jf Xe Jv tF Jq Yw Yu Yl Uj Um Px Vg X_ Xv Vc Js;go_upto_region 19 with fail;rw[<-Zw.out];clear z2 E_ Zw;go_cut [7]from 24 to 99 (fun iv W=>iv=.int .i64 j/\FB g a len cap F Jx.heap.size (nb*31) Rb.length nm (.slice px pm py) W13 W)
      case first=>
       go_region_law
        (first
        | (go_simp;(with_reducible refine Calls.mono Ot.out ?_);intro x By hx;obtain⟨Az,ns,Zh,Yp,Yy,Zo⟩:=hx;subst Zh;obtain⟨ua,un,uc,rfl⟩:∃x y z,Az=.slice x y z:=(by obtain⟨x,y,e,-⟩:=au Yp;exact⟨x,_,y,e⟩);obtain⟨va,vn,vc,Bn,Pr,⟨k2,Bk⟩,Au,Af,⟨R',Zv,Xi⟩,Xk,Xg,Xl⟩:=Uo.out By ua un uc ns Yp Yy Zo;have Bh:Hid (FB g a len cap F Jx.heap.size (nb*31) Rb.length nm (.slice px pm py) W13 (Bn.setCell ⟨F,2,none⟩ (.slice va vn vc))):=⟨va,vn,vc,R',Xk,Zv,Xi,Xg,Xl⟩;clear Yp Yy Zo Zv Xi Xk Xg Xl)
        | (refine bm rfl _ _ _ rfl _ _ _ _ rfl rfl Pr ?_))
       all_goals (
        clear Pr k2 Bk Au Af Uo Ot;go_wp2;go_meet
        case rel=>exact⟨rfl,Bh⟩)
      case rest=>
       obtain⟨rfl,Ai⟩:=hcut;clear c0 c1 c2 c3 c4 f2 Uo Ot;obtain⟨va,vn,vc,R',Jr,Zp,Ab,Xt,Yq⟩:=Ai;have Jq:=Jw.out;have Yw:=HF.out;have Yu:=HI.out;have Yl:=Ji.out;have Yh:∀b,(Value.slice fa fn fc).ownBlock=some b->q<b/\b<F:=fun b hb=>⟨by have:=(Jk.out.rng b hb).1;omega,by have:=(Jk.out.rng b hb).2;omega⟩;have Xc:am (fun b=>b=g∨b=F∨b=I) W3 wc:=Za.out.next Yq (fun b hb=>by
        rcases hb with h|h|h
        ·exact .inl (.inl h)
        ·exact .inl (.inr (.inl h))
        ·exact .inr o_)
       have Jc:am (S0 g) Wr wc:=(Ji.out.1.tcs (S:=S0 g)).next Xc (fun b hb=>by
        rcases hb with h|h|h
        ·exact .inl h
        ·exact .inr o_
        ·exact .inr o_)
       have Jt:aR wc T [.slice (some ⟨GL,0,none⟩) 4 4,.slice fa fn fc]:=Vm.out.tcs o_ Jc (fun e=>by have:T=g:=e;omega);have Xr:aR wc q [.slice ca cn cc,.slice pa pn pc,.slice none 0 0,.slice none 0 0,.int .i64 0]:=Ax.out.tcs o_ Jc (fun e=>by have:q=g:=e;omega);have Xs:=Jk.out.tcs (Jc.mono (T:=fun k=>k<W2.heap.size) fun k hk=>by have:k=g:=hk;omega) (fun k hk=>hk);have Xq:∀W,am (fun b=>b<W3.heap.size) wc W->Strs W (.slice px pm py) qs:=fun W hW=>Xh.out (fun b=>b<W3.heap.size∨Jx.heap.size<=b) W ((Yq.mono fun b hb=>by
        rcases hb with h|h|h
        ·exact .inl o_
        ·exact .inl o_
        ·exact .inr h).trans (hW.mono fun b hb=>.inl hb)) (fun b hb=>hb)
       obtain⟨na,nn,nc,Oq,Pm,⟨t1,Ga⟩,Xw,Xx,⟨Q',Jp,Aj⟩,Jn,Zu,Jg⟩:=mR (g:=g) (a:=a) (len:=len) (cap:=cap) Jt Jr Xs (by have:=Xu.out;omega) Xt ⟨o_,o_,by have:=Jc.size;omega,o_,by have:=Xc.size;omega⟩ (Jm.out.mono o_) Xq o_ Bd.out Zf.out Zp ⟨o_,o_⟩ o_ (fun b hb=>by have:=(Yh b hb).2;omega);have Jl:aR (Oq.setCell ⟨T,1,none⟩ (.slice na nn nc)) q [.slice ca cn cc,.slice pa pn pc,.slice none 0 0,.slice none 0 0,.int .i64 0]:=Xr.tcs (by have:=Jc.size;omega) Jg (fun e=>by
        rcases e with e|e
        ·omega
        ·have:=(Yh q e).1;omega)
       have J_:am (Sv (Sx g T q) (.slice fa fn fc)) Wr (Oq.setCell ⟨T,1,none⟩ (.slice na nn nc)):=(Jc.mono fun b hb=>.inl (.inl hb)).trans (Jg.mono fun b hb=>by
        rcases hb with h|h
        ·exact .inl (.inr (.inl h))
        ·exact .inr h)
       have Ju:=Oi.out _ J_;have Ez:=(Jt 1 _ rfl).1;have As:=(Jr 0 _ rfl).1;have Bi:=(Jr 1 _ rfl).1;have Ey:=(Jr 2 _ rfl).1;obtain⟨Ja,Ya⟩:=q_ (Oq.setCell ⟨T,1,none⟩ (.slice na nn nc));have Zb:=ah Ya;rw[<-Ya]at Xw Xx Jp Jn Jg Jl Ju J_;have Ve:=ah Pm;have Xp:F<Ja.heap.size:=by have:=Jg.size;have:=Xc.size;omega
       obtain⟨Oe,Xo,Ze,Xj,Jj,Vj⟩:=h6 Xw Jp Jn Jl Ju J_;have Zz:Hid (am (Sx g T q) W2 Ja):=(Zx.out.trans (Jc.mono fun b hb=>.inl hb)).next Jg (fun b hb=>by
        rcases hb with h|h
        ·exact .inl (.inr (.inl h))
        ·exact .inr (by have:=(Jk.out.rng b h).1;omega))
       have Ag:Hid (Q'.length=j+1):=by show _=_;have:=Xu.out;omega
       have B_:=ah (Xx 0 _ rfl).1;have Z_:q<Ja.heap.size:=o_;clear Jr Zp Ab Xt Yq Xc Jc Jt Xr Xs Xq Pm Xw Xx Jp Jn Zu Jg Jl J_ Ju Ya Yh Jq Yw Yu Yl Aj Jb Xz Zg Za Xh;go_upto_region 21 with(at_builtin;refine ao rfl _ _ _ rfl _ _ _ _ rfl rfl Ve.out ?_);rw[<-Zb.out];clear Ez As Bi Ey t1 Ga Zb Ve;go_cut [7]from 24 to 99 (fun iv W=>iv=.int .i64 j/\D2 q Ja (.slice pa pn pc) (cs++[nm]) W)
       case first=>
        obtain⟨PA,PB,PC⟩:=h3 (EU Ja _ _ Jj.out.1) (EV Ja _ _ nm Jj.out.1) (EW Ja _ _ nm Jj.out.1);have e0:=(Xj.out 0 _ rfl).1;have e1:=B_.out;have eA:∀o,(Ja.alloc o).cell? ⟨q,0,none⟩=some (.slice ca cn cc):=fun o=>(World.cell?_alloc_past o q 0 Z_).trans e0;have eB:∀o,(Ja.alloc o).cell? ⟨F,0,none⟩=some (.string nm):=fun o=>(World.cell?_alloc_past o F 0 Xp).trans e1;have Gm:q<Ja.heap.size+1:=o_
        have eC:∀o o',((Ja.alloc o).alloc o').cell? ⟨q,0,none⟩=some (.slice ca cn cc):=fun o o'=>(World.cell?_alloc_past o' q 0 (by simp;omega)).trans (eA o);have Gf:cs.length<=10:=by have:=Xu.out;omega
        have Ou:Hid (∀w2 v2,Bl Ja w2->w2.ownsRow Ja.heap.size 9 1 v2 (cs++[nm]).length ((cs++[nm]).map Value.string)->_):=fun w2 v2 h1 h2=>Aa (cs:=cs++[nm]) Xj.out Z_ h1 h2;go_region_law
         (first
         | (refine fy (by rfl) _ _ (by rfl) Ja.heap.size (.slice (some ⟨Ja.heap.size,0,none⟩) 0 0) [] (by rfl) PA.out.1 (.slice ca cn cc) cs (by rfl) PA.out.2.1 (by simp;omega) PA.out.2.2.size ?_;intro v1 w1 Xm Ye Ev;have Jy:Bl Ja w1:=tN PA.out.2.2 PA.out.1 Ye;have yF:=(Jy.cell (p:=⟨F,0,none⟩) Xp).trans e1)
         | (refine fy (by rfl) _ _ (by rfl) Ja.heap.size (.slice (some ⟨Ja.heap.size,0,none⟩) 0 0) [] (by rfl) PB.out.1 (.slice ca cn cc) cs (by rfl) PB.out.2.1 (by simp;omega) PB.out.2.2.1.size ?_;intro v1 w1 Xm Ye Ev;have Jy:Bl Ja w1:=tN PB.out.2.2.1 PB.out.1 Ye;have Bu:w1.cell? ⟨Ja.heap.size+1,0,none⟩=some (.string nm):=(c_ (a:=⟨Ja.heap.size+1,0,none⟩) (Ye.block _ i_ (by simp[Value.ownBlock]))).trans PB.out.2.2.2)
         | (refine fy (by rfl) _ _ (by rfl) Ja.heap.size (.slice (some ⟨Ja.heap.size+1,0,none⟩) 0 0) [] (by rfl) PC.out.1 (.slice ca cn cc) cs (by rfl) PC.out.2.1 (by simp;omega) PC.out.2.2.1.size ?_;intro v1 w1 Xm Ye Ev;have Jy:Bl Ja w1:=tN PC.out.2.2.1 PC.out.1 Ye;have Av:w1.cell? ⟨Ja.heap.size,0,none⟩=some (.string nm):=(c_ (a:=⟨Ja.heap.size,0,none⟩) (Ye.block _ (by simp;omega) (by simp[Value.ownBlock]))).trans PC.out.2.2.2)
         | (refine fy (by rfl) _ _ (by rfl) Ja.heap.size v1 cs (by rfl) (jb.below Xm (aD _ _)) (.slice (some ⟨w1.heap.size,0,none⟩) 1 1) [nm] (by rfl) (BZ w1 nm 9) (by simp;omega) (t_ Jy.size i_) ?_;intro v2 w2 Zm Zc D_;obtain⟨xa,xn,xc,rfl,⟨zq,Eo⟩,Vv⟩:=Ou.out w2 v2 (tN (Jy.alloc Jy.size _) (jb.below Xm (aD _ _)) Zc) Zm)
         | (refine fy (by rfl) _ _ (by rfl) Ja.heap.size v1 cs (by rfl) Xm (.slice (some ⟨Ja.heap.size+1,0,none⟩) 1 1) [nm] (by rfl) (mu Bu) (by simp;omega) Jy.size ?_;intro v2 w2 Zm Zc D_;obtain⟨xa,xn,xc,rfl,⟨zq,Eo⟩,Vv⟩:=Ou.out w2 v2 (tN Jy Xm Zc) Zm)
         | (refine fy (by rfl) _ _ (by rfl) Ja.heap.size v1 cs (by rfl) Xm (.slice (some ⟨Ja.heap.size,0,none⟩) 1 1) [nm] (by rfl) (mu Av) (by simp;omega) Jy.size ?_;intro v2 w2 Zm Zc D_;obtain⟨xa,xn,xc,rfl,⟨zq,Eo⟩,Vv⟩:=Ou.out w2 v2 (tN Jy Xm Zc) Zm))
        all_goals (
         have Bw:=ah Vv;clear Vv;go_wp2;go_meet
         case rel=>exact⟨rfl,Bw⟩)
       case rest=>
        obtain⟨rfl,xa,xn,xc,Xa,Vd,Zj⟩:=hcut;have Jq:=Jw.out;have Zy:Ints wc (.slice pa pn pc) ps:=(Oi.out wc (Vj.out.trans (Zj.mono fun b hb=>.inl (.inr (.inr hb))))).2;obtain⟨Gj,Gl,ya,yn,yc,Oz,Dm,Df,oi,bi⟩:=CH wc (.slice pa pn pc) ps (k:Int) Zy (by have:=Xu.out;omega) 128;have y1:=(Xa 1 _ rfl).1;have Gh:=((Xa.below ((Below.refl wc.heap.size wc).alloc n_ (.cells #[] 2))) 1 _ rfl).1;have Vs:=Xa.below bi;have z1:=(Vs 1 _ rfl).1;have Ge:=(Vs 1 _ rfl).2;obtain⟨W22,Xb⟩:=q_ (Oz.setCell ⟨q,1,none⟩ (.slice ya yn yc));have Oo:=ah Xb;have tS:am (fun b=>b=q) Oz W22:=by rw[Xb];exact(am.refl (fun b=>b=q) Oz).setCell (p:=⟨q,1,none⟩) rfl _
        have Je:am (fun b=>b=q) Ja W22:=(Zj.of_below bi).trans tS;have Va:aR W22 q [.slice xa xn xc,.slice ya yn yc,.slice none 0 0,.slice none 0 0,.int .i64 0]:=by rw[Xb];exact Vs.set 1 _
        have Of:∀b,Sv (Sx g T q) (.slice na nn nc) b->b<Ja.heap.size:=fun b hb=>by
         rcases hb with(h|h|h)|h
         ·omega
         ·omega
         ·omega
         ·exact(Xo.out.rng b h).2
        have Ap:Hid (LI g a len cap T q GL W2.heap.size W2 W22 (j+1)):=by
         refine⟨Ze.out.keep Je o_ (fun b off x y e=>by have:=(Jm.out.by8 b off x y).1;omega),Zz.out.trans (Je.mono fun b hb=>.inr (.inr hb)),na,nn,nc,Q',Oe.out.tcs o_ Je o_,Xo.out.tcs (Je.mono (T:=fun b=>b<W2.heap.size) fun b hb=>by omega) (fun b hb=>hb),Ag,xa,xn,xc,ya,yn,yc,cs++[nm],ps++[(k:Int)],Va,fun W hW=>⟨?_,?_⟩,?_,?_,?_,?_⟩
         ·have h1:=az Vd ((bi.tcs (S:=fun b=>b<Ja.heap.size)).trans (tS.mono fun b hb=>by omega)) (fun b hb=>hb);exact e_ (az h1 hW Of)
         ·have h2:=az oi (tS.mono (T:=fun b=>b<wc.heap.size) fun b hb=>by have:=Zj.size;omega) (fun b hb=>hb);exact vX (az h2 hW (fun b hb=>l_ (Of b hb) Zj.size))
         ·have:=Xu.out;simp;omega
         ·have:=Xu.out;simp;omega
         ·intro x hx;rcases List.mem_append.1 hx with hx|hx
          ·exact Uw.out.1 x hx
          ·simp only[List.mem_singleton]at hx;subst hx;omega
         ·intro x hx;rcases List.mem_append.1 hx with hx|hx
          ·exact Uw.out.2 x hx
          ·simp only[List.mem_singleton]at hx;subst hx;exact Zf
        obtain⟨Uq,Or⟩:=h2 Dm Df;clear Xa Vd Zj Jq Zy oi bi Vs Xb tS Je Va Of Dm Df;go_wp2_with(at_builtin;first
         | refine ao rfl (.tmp 92) (.tmp 94) _ rfl _ _ _ _ rfl rfl Uq.out ?_
         | refine ao rfl (.tmp 95) (.tmp 97) _ rfl _ _ _ _ rfl rfl Or.out ?_)
        rw[<-Oo.out];go_roundw
        case rel=>exact⟨j+1,o_,by go_num,Ap⟩
        case measure=>simp[RowKit.intOf];omega
  ·have Jq:=Jw.out;have Aw:W2.heap.size<=Wr.heap.size:=Yd.size;have Bt:j<=3:=o_
   have Xf:∀b,(Value.slice fa fn fc).ownBlock=some b->q<b/\b<Wr.heap.size:=fun b hb=>⟨by have:=(Yr.rng b hb).1;omega,(Yr.rng b hb).2⟩;have Yn:=Ac (a:=a) (len:=len) (cap:=cap) Vp ⟨o_,o_⟩ ⟨Uc,Vt⟩ Pb.out.cur ⟨o_,o_,o_,o_⟩ (Jm.out.mono o_) o_ Xf;obtain⟨I,hI⟩:=q_ Wr.heap.size;obtain⟨W3,Jh⟩:=q_ (Wr.alloc (.cells #[.slice ca cn cc,.slice pa pn pc,.slice none 0 0,.slice none 0 0,.int .i64 0] 130));obtain⟨HI,Zq⟩:=h2 hI Jh;rw[<-Jh,<-hI]at Yn;have On:=ah Yn;have Ys:Bl Wr W3:=by rw[Jh];exact r_.alloc n_ _
   have Vk:W3.heap.size=Wr.heap.size+1:=by rw[Jh];simp
   have Ji:Hid (Bl Wr W3/\W3.heap.size=Wr.heap.size+1):=⟨Ys,Vk⟩;have q0:=(Xn 0 _ rfl).1;have q1:=(Xn 1 _ rfl).1;obtain⟨Vm,Jk,Zx⟩:=h3 Vo Yr Yd;have Dz:Hid (Q.length<=3):=by show _<=_;omega
   clear Jq Xf Yn hI Jh Ys Vk Vo Yr Yd Pg Xn Vp Od Un Uc Vt;go_upto_region 24 with fail;rw[<-Zq.out,<-HI.out];clear q0 q1 Zq;go_wp2_with fail;refine(aI g a len cap (S0 g) _ _ hl Yj On.out.cur o_).mono ?_;rintro e w4 ⟨x4,rfl,Bf,Yx⟩;have Eb:=ah (On.out.dr Yx);have Ph:Hid (am (S0 g) W3 w4):=Yx.tcs;obtain⟨nb,Zd⟩:∃nb:Nat,2+x4=nb:=⟨(2+x4).toNat,o_⟩;have Ov:2<=nb/\nb<=7:=o_;have Oa:=ah Zd;have Jd:mK 3=127:=rfl;clear Yx Zd;go_wp2_with fail;refine(gE g a len cap I 3 o_ (pK g a len cap I hl 3 o_) nb o_ _ _ Oa.out rfl (S4 g T q I (.slice fa fn fc)) _ 10 w4 Eb.out (by rw[Jd];omega)).mono ?_;rintro e w5 ⟨vb,rfl,Rb,G5,Vx,Dn,O_,Ux⟩;rw[Jd]at Vx O_;obtain⟨ba,bn,bc,rfl⟩:∃x y z,vb=.slice x y z:=by obtain⟨x,y,e⟩:=Vx.shape;exact⟨x,_,y,e⟩
   obtain⟨F,hF⟩:=q_ w5.heap.size;obtain⟨W6,Zl⟩:=q_ (w5.alloc (.cells #[.string ⟨#[109,97,105,110]⟩,.slice none 0 0,.slice ba bn bc] 43));obtain⟨HF,Ep⟩:=h2 hF Zl;have Vz:Bl w5 W6:=by rw[Zl];exact r_.alloc n_ _
   have Pk:Hid (aR W6 F [.string ⟨#[109,97,105,110]⟩,.slice none 0 0,.slice ba bn bc]):=by rw[Zl,hF];exact aJ w5 _ _ i_
   have De:F<W6.heap.size:=by rw[Zl,hF];simp
   have El:=ah De;have Dy:Hid (dP g a len cap W6):=O_.cur.below Vz;have Pu:Hid (SR w4.heap.size W6 (.slice ba bn bc) Rb (nb*127)):=Vx.below Vz;have Db:am (Sq g I) W3 W6:=((Ph.out.mono iX).trans Ux).of_below Vz;have Dw:Hid (am (S0 g) Wr W6):=(Ji.out.1.tcs (S:=S0 g)).next Db (fun b hb=>by
    rcases hb with h|h
    ·exact .inl h
    ·exact .inr (by have:=HI.out;omega))
   have Dk:=ah Dn;have Eg:Hid (Wr.heap.size<w4.heap.size/\w4.heap.size<=F):=⟨by have:=Ph.out.size;have:=Ji.out.2;omega,by rw[hF];exact Ux.size⟩;clear Vx Dn O_ Ux hF Zl Vz Db On Eb De;go_upto_region 25 with fail;rw[<-Ep.out,<-HF.out];clear Ep;go_wp2_with fail;refine(eZ g a len cap (S0 g) _ _ hl Yj Dy.out o_).mono ?_;rintro e w7 ⟨b7,rfl,Xy⟩;have Jq:=Jw.out;have Al:=Eg.out;have Y_:am (S0 g) Wr w7:=Dw.out.trans Xy.tcs;have Bb:Wr.heap.size<=w7.heap.size:=Y_.size;have nS:∀b,w.heap.size<=b->¬S0 g b:=fun b hb e=>by have:b=g:=e;omega
   have Jz:=Vm.out.tcs o_ Y_ (nS T o_);have Yk:=Jk.out.tcs (Y_.mono (T:=fun k=>k<W2.heap.size) fun k hk=>by have:k=g:=hk;omega) (fun k hk=>hk);have Zr:=Pk.out.tcs El.out Xy.tcs (nS F o_);have Pc:=Pu.out.tcs Xy.tcs (fun k hk=>by have:k=g:=hk;omega);have Ut:am (Sx g T q) W2 w7:=Zx.out.trans (Y_.mono fun b hb=>.inl hb);have t1:=(Jz 1 _ rfl).1;have f0:=(Zr 0 _ rfl).1;have f1:=(Zr 1 _ rfl).1;have f2:=(Zr 2 _ rfl).1;have Am:=Dz.out;have Ba:=Dk.out;have Xf:∀b,(Value.slice fa fn fc).ownBlock=some b->b<w4.heap.size/\b<w4.heap.size/\b≠F:=fun b hb=>by have:=(Jk.out.rng b hb).2;omega
   have Uv:F<w7.heap.size:=l_ El.out Xy.tcs.size;have Ek:∀W:World,Strs W (.slice none 0 0) []:=fun W=>⟨none,0,rfl,n_,o_,fun h=>absurd h (Nat.lt_irrefl _)⟩;obtain⟨na,nn,nc,wn,rn,⟨n1,Dx⟩,Pt,-,⟨Qn,Vh,Dt⟩,Vb,-,Pj⟩:=mR (g:=g) (a:=a) (len:=len) (cap:=cap) (Bp:=w4.heap.size) (qs:=[]) Jz Zr Yk o_ Xy.cur ⟨o_,o_,o_,o_,Uv⟩ (Jm.out.mono o_) (fun W _=>Ek W) o_ ⟨i_,fun x hx=>by cases hx⟩ d_ Pc ⟨o_,o_⟩ o_ Xf;obtain⟨ma,mn,mc,wm,rm,⟨m1,Ex⟩,Ej,⟨Qm,Zn,Pi⟩,Zi,Dq⟩:=qW (g:=g) (a:=a) (len:=len) (cap:=cap) (nm:=⟨#[109,97,105,110]⟩) Jz Yk o_ Xy.cur ⟨o_,o_,o_⟩ (Jm.out.mono o_) d_ Pc ⟨o_,o_⟩ o_;have Pf:∀(W:World) (xa:Option Addr) (xn xc:Nat) (Qx:List FV),am (Sx g T q) W2 W->aR W T [.slice (some ⟨GL,0,none⟩) 4 4,.slice xa xn xc]->FR (fun k=>k<W2.heap.size) W2.heap.size W (.slice xa xn xc) Qx->Qx.length=Q.length+1->dP g a len cap W->(W.cell? ⟨T,0,none⟩=some (.slice (some ⟨GL,0,none⟩) 4 4)/\W.cell? ⟨T,1,none⟩=some (.slice xa xn xc))/\aR W R0 [.slice none 0 0,.slice none 0 0]/\aR ((W.setCell ⟨R0,0,none⟩ (.slice (some ⟨GL,0,none⟩) 4 4)).setCell ⟨R0,1,none⟩ (.slice xa xn xc)) R0 [.slice (some ⟨GL,0,none⟩) 4 4,.slice xa xn xc]/\(∃t,TD (fun k=>k<w.heap.size) ((W.setCell ⟨R0,0,none⟩ (.slice (some ⟨GL,0,none⟩) 4 4)).setCell ⟨R0,1,none⟩ (.slice xa xn xc)) (.slice (some ⟨GL,0,none⟩) 4 4) (.slice xa xn xc) t)/\Dr g a len cap (S0 g) w ((W.setCell ⟨R0,0,none⟩ (.slice (some ⟨GL,0,none⟩) 4 4)).setCell ⟨R0,1,none⟩ (.slice xa xn xc)):=fun W xa xn xc Qx ht hT hf hQ hc=>by
    have Yb:=ht.size;have tR:am (fun b=>b=R0) W ((W.setCell ⟨R0,0,none⟩ (.slice (some ⟨GL,0,none⟩) 4 4)).setCell ⟨R0,1,none⟩ (.slice xa xn xc)):=((am.refl (fun b=>b=R0) W).setCell (p:=⟨R0,0,none⟩) rfl _).setCell (p:=⟨R0,1,none⟩) rfl _;have nx:∀b,b=GL∨b=R0->¬Sx g T q b:=fun b hb e=>by rcases e with e|e|e <;> omega
    have A_:aR W GL lM:=Eh.out.tcs o_ ht (nx GL (.inl rfl));refine⟨⟨(hT 0 _ rfl).1,(hT 1 _ rfl).1⟩,Pd.out.tcs o_ ht (nx R0 (.inr rfl)),((Pd.out.tcs o_ ht (nx R0 (.inr rfl))).set 0 _).set 1 _,CI (W2:=W) (A_.tcs o_ tR o_) ⟨o_,by have:=tR.size;omega⟩ (hf.tcs (tR.mono (T:=fun b=>b<W2.heap.size) fun b hb=>by omega) (fun b hb=>hb)) o_ ⟨o_,o_⟩,hc.keep tR o_ (fun b off x y e=>by have:=(Jm.out.by8 b off x y).1;omega),?_⟩;refine(Ol.out.tcs.next ht (fun b hb=>?_)).next tR (fun b hb=>.inr o_);rcases hb with h|h|h
    ·exact .inl h
    ·exact .inr o_
    ·exact .inr o_
   have Er:am (Sx g T q) W2 (wn.setCell ⟨T,1,none⟩ (.slice na nn nc)):=Ut.next Pj (fun b hb=>by
    rcases hb with h|h
    ·exact .inl (.inr (.inl h))
    ·exact .inr (by have:=(Jk.out.rng b h).1;omega))
   have Du:am (Sx g T q) W2 (wm.setCell ⟨T,1,none⟩ (.slice ma mn mc)):=Ut.trans (Dq.mono fun b hb=>.inr (.inl hb));obtain⟨⟨Pn,En⟩,U_,Os,Ee,Eq⟩:=Pf _ na nn nc Qn Er Pt Vh Dt Vb;obtain⟨⟨Et,Dg⟩,Ow,Ox,Pp,Dv⟩:=Pf _ ma mn mc Qm Du Ej Zn Pi Zi;have Vr:=U_ 0 _ rfl;have Ub:=U_ 1 _ rfl;have Vu:=Ow 0 _ rfl;have V_:=Ow 1 _ rfl;obtain⟨Bz,Bv,Ul,Oh,Om,Ob⟩:=h6 rn rm (And.intro (Os 0 _ rfl).1 (Os 1 _ rfl).1) (And.intro (Ox 0 _ rfl).1 (Ox 1 _ rfl).1) (And.intro Ee Eq) (And.intro Pp Dv);obtain⟨Wn,Op⟩:=q_ (wn.setCell ⟨T,1,none⟩ (.slice na nn nc));obtain⟨Wm,Ur⟩:=q_ (wm.setCell ⟨T,1,none⟩ (.slice ma mn mc));obtain⟨Ah,Bx⟩:=h2 Op Ur;rw[<-Op]at Pn En Vr Ub Om Ul;rw[<-Ur]at Et Dg Vu V_ Ob Oh;have Ea:(w7.alloc (.cells #[.string ⟨#[109,97,105,110]⟩,.slice none 0 0,.slice ba bn bc] 43)).cell? ⟨T,1,none⟩=some (.slice fa fn fc):=(World.cell?_alloc_past _ T 1 o_).trans t1;obtain⟨Vr,Oy⟩:=Vr;obtain⟨Ub,Ud⟩:=Ub;obtain⟨Vu,Uf⟩:=Vu;obtain⟨V_,Us⟩:=V_;clear Xy Jq Al Y_ Bb nS Jz Yk Zr Pc Ut Am Ba Xf Ek rn Pt Vh Dt Vb Pj rm Ej Zn Pi Zi Dq Pf Er Du U_ Ee Eq Ow Pp Dv Os Ox Op Ur Vm Jk Zx Dz Pb Pk Pu Dw Dk Eg Dy Po Pl Dd Uu Eh Pd Ol Jw;cases b7
   ·clear Et Dg Vu V_ Uf Us m1 Ex Ea;go_upto_region 28 with(at_builtin;refine ao rfl _ _ _ rfl _ _ _ _ rfl rfl Bz.out ?_);rw[<-Ah.out];clear n1 Dx t1 f0 f1 f2;go_wp2_with fail;refine bodyPost_ret (by simp[results,results68,go_sem,Ul.out.1,Ul.out.2];try rfl) rfl ?_;exact⟨_,_,rfl,Om.out.1,Om.out.2⟩
   ·clear Pn En Vr Ub Oy Ud n1 Dx;go_upto_region 28 with(at_builtin;refine ao rfl _ _ _ rfl _ _ _ _ rfl rfl Bv.out ?_);rw[<-Bx.out];clear m1 Ex t1 f0 f1 f2 Ea;go_wp2_with fail;refine bodyPost_ret (by simp[results,results68,go_sem,Oh.out.1,Oh.out.2];try rfl) rfl ?_;exact⟨_,_,rfl,Ob.out.1,Ob.out.2⟩
theorem pN(x:Act):∀(ds:List Tmp) (a:Act) (t:Tmp),a.tmps.size=x.tmps.size->(∀t∈ds,t<x.tmps.size)->(ds.foldl (fun a t=>a.put (some t) (x.eval (.tmp t))) a).tmps[t]? =if t∈ds then x.tmps[t]? else a.tmps[t]?
 | [],a,t,_,_=>by simp
 | d::ds,a,t,hs,hin=>by
  have hd:d<x.tmps.size:=hin d i_;rw[List.foldl_cons,pN x ds _ t (by simp[Act.put];exact hs) (fun t ht=>hin t (by simp[ht]))];by_cases h1:t∈ds
  ·rw[if_pos h1,if_pos (by simp[h1])]
  ·rw[if_neg h1];by_cases h2:t=d
   ·subst h2;rw[if_pos i_];have:t<a.tmps.size:=by rw[hs];exact hd
    simp[Act.put,Act.eval,this,hd]
   ·rw[if_neg (by simp[h1,h2])];simp[Act.put,Array.getElem?_setIfInBounds_ne (fun e=>h2 e.symm)]
theorem kn(x:Act):∀(ds:List Tmp) (a:Act),(ds.foldl (fun a t=>a.put (some t) (x.eval (.tmp t))) a).defers=a.defers
 | [],a=>rfl
 | d::ds,a=>by rw[List.foldl_cons,kn x ds];rfl
theorem yl{a0 x:Act}(ds:List Tmp)(hd:x.defers=a0.defers)(hs:x.tmps.size=a0.tmps.size)(Jb:∀t∈ds,t<a0.tmps.size)(Ja:∀t,t∉ds->x.tmps[t]? =a0.tmps[t]?):x=ds.foldl (fun a t=>a.put (some t) (x.eval (.tmp t))) a0:=by
 have h1:(ds.foldl (fun a t=>a.put (some t) (x.eval (.tmp t))) a0).tmps=x.tmps:=by
  apply Array.ext_getElem?;intro t;rw[pN x ds a0 t hs.symm (fun t ht=>by rw[hs];exact Jb t ht)];by_cases h:t∈ds
  ·rw[if_pos h]
  ·rw[if_neg h,Ja t h]
 have h2:=kn x ds a0;obtain⟨xt,xd⟩:=x;generalize ds.foldl (fun a t=>a.put (some t) ((⟨xt,xd⟩:Act).eval (.tmp t))) a0=y at h1 h2⊢;obtain⟨yt,yd⟩:=y;simp only at h1 h2 hd;rw[h1,h2,hd]
theorem ol{i:Nat}(h:i<10):i=0∨i=1∨i=2∨i=3∨i=4∨i=5∨i=6∨i=7∨i=8∨i=9:=by omega
section
variable{g M len cap O R4 N fl gl b c b' c' bb bn bc:Nat}{a:Option Addr}{w W:World}{gs:List Gl}{Q:List FV}{R:List SV}
theorem QP.below{W':World}(h:QP g M a len cap O R4 N fl gl w W b c b' c' gs Q bb bn bc R)(hb:Below W.heap.size W W'):QP g M a len cap O R4 N fl gl w W' b c b' c' gs Q bb bn bc R:=
 ⟨h.pp.below hb,h.br.below hb,h.rl,h.es,h.bne⟩
theorem QP.alloc(h:QP g M a len cap O R4 N fl gl w W b c b' c' gs Q bb bn bc R)(o:Obj):QP g M a len cap O R4 N fl gl w (W.alloc o) b c b' c' gs Q bb bn bc R:=
 h.below (r_.alloc n_ o)
theorem PP.cp{vb:Value}(h:PP g M a len cap O R4 N fl gl w W b c b' c' gs Q)(Jb:BR (fun k=>k<M∨k=R4∨k=b') N W vb R)(hl:R.length<=20000)(Ja:∀k,vb.ownBlock=some k->k≠b'):CP g M a len cap O R4 N fl w W vb (.slice (some ⟨b,0,none⟩) gl c) b' c' gs Q R:=by
 obtain⟨l0,l1,l2,l3,l4⟩:=h.lo;obtain⟨q1,q2,q3,q4,q5,q6⟩:=h.ln;obtain⟨e1,e2,e3⟩:=h.ne;obtain⟨⟨s1,s2⟩,s3,s4⟩:=h.rng;refine⟨h.box,h.res,h.gr,h.fr.less (fun k hk=>by rcases hk with e|e;exact .inl e;exact .inr o_),Jb,⟨q1,q3,o_,hl⟩,h.gn,h.cur,h.tcs,⟨e2,o_,fun k hk=>?_,Ja⟩,⟨l0,l1,l2,o_⟩⟩;simp only[Value.ownBlock,Option.some.injEq]at hk;omega
theorem QP.less(h:QP g M a len cap O R4 N fl gl w W b c b' c' gs Q bb bn bc R):BR (fun k=>k<M∨k=R4∨k=b') N W (.slice (some ⟨bb,0,none⟩) bn bc) R:=by
 obtain⟨l0,l1,l2,l3,l4⟩:=h.pp.lo;obtain⟨⟨s1,s2⟩,s3,s4⟩:=h.pp.rng;exact⟨h.br.row.less (fun k hk=>by rcases hk with e|e|e;exact .inl e;exact .inr o_;exact .inr o_),h.br.ok⟩
theorem QP.put(h:QP g M a len cap O R4 N fl gl w W b c b' c' gs Q bb bn bc R)(hL:Lo g a len (S0 g) w.heap.size)(i:Nat)(hi:i<bn)(cc:Nat)(hc:cc<6):
  ∃x,W.cell? ⟨bb,i*6+cc,none⟩=(aY x)[cc]? /\ W.frozen? ⟨bb,i*6+cc,none⟩=false/\(bI x.s.e 5000/\bI x.s.f 5000/\x.s.name.size<=100000)/\x.s.e.length<=3000/\(∀W',am (fun k=>k<M∨w.heap.size<=k) W W'->ax W' x.ve x.s.e/\ax W' x.vf x.s.f) /\
   ∀(u:Value) (x':SV),aY x'=(aY x).set cc u->(∀W',am (fun k=>(k<M∨k=R4∨k=b')∨k=bb) W W'->ax W' x'.ve x'.s.e/\ax W' x'.vf x'.s.f)->(bI x'.s.e 5000/\bI x'.s.f 5000/\x'.s.name.size<=100000)->∃R',CP g M a len cap O R4 N fl w (W.setCell ⟨bb,i*6+cc,none⟩ u) (.slice (some ⟨bb,0,none⟩) bn bc) (.slice (some ⟨b,0,none⟩) gl c) b' c' gs Q R':=by
 obtain⟨l0,l1,l2,l3,l4⟩:=h.pp.lo;obtain⟨r1,r2,r3⟩:=h.rl;obtain⟨b1,b2,b3⟩:=h.bne;have Jb:i<R.length:=o_;have Jg:=h.br.rng bb rfl;have Jc:W.ownsRow N 46 6 (.slice (some ⟨bb,0,none⟩) bn bc) R.length (bz R):=h.br.row.row;have Ja:W.ownsRow N 46 6 (.slice (some ⟨bb,0,none⟩) bn bc) bn (bz R):=by have h0:=Jc;rw[r1]at h0;exact h0
 have Jf:=flatS_len R;refine⟨R[i],?_,World.ownsRow.frozenAt Ja _,h.br.ok _ (g_ Jb),h.es _ (g_ Jb),fun W' hW'=>h.br.row.st W' (hW'.mono fun k hk=>.inl hk) _ (g_ Jb),fun u x' hx hp ho=>?_⟩
 ·rw[World.ownsRow.cellAt Ja (i*6+cc) o_,dH R i cc Jb hc]
 ·have Je:=h.less.put i cc u x' Jb hc hx hp ho;have t1:am (fun k=>k=bb) W (W.setCell ⟨bb,i*6+cc,none⟩ u):=(am.refl (fun k=>k=bb) W).setCell (p:=⟨bb,i*6+cc,none⟩) rfl _;have Jd:=h.pp.past t1 (h.pp.cur.new hL t1 (fun k hk=>by omega)) (fun k hk=>by have e:k=bb:=hk;exact⟨.inr o_,o_,o_,o_,o_⟩);exact⟨_,Jd.cp Je (by rw[List.length_set];omega) (fun k hk=>by simp only[Value.ownBlock,Option.some.injEq]at hk;omega)⟩
theorem QP.kind(h:QP g M a len cap O R4 N fl gl w W b c b' c' gs Q bb bn bc R)(hL:Lo g a len (S0 g) w.heap.size)(i:Nat)(hi:i<bn):
  (∃k0:Int,W.cell? ⟨bb,i*6,none⟩=some (.int .i64 k0))/\W.frozen? ⟨bb,i*6,none⟩=false/\∀n:Int,∃R',CP g M a len cap O R4 N fl w (W.setCell ⟨bb,i*6,none⟩ (.int .i64 n)) (.slice (some ⟨bb,0,none⟩) bn bc) (.slice (some ⟨b,0,none⟩) gl c) b' c' gs Q R':=by
 obtain⟨x,hx,hz,ho,hl,hp,hs⟩:=h.put hL i hi 0 o_;obtain⟨l0,l1,l2,l3,l4⟩:=h.pp.lo;have Jb:=h.pp.rng;have Ja:=h.br.rng bb rfl;refine⟨⟨_,hx⟩,hz,fun n=>hs _ ⟨⟨n,x.s.name,x.s.e,x.s.f,x.s.thn,x.s.els⟩,x.ve,x.vf,[],[]⟩ rfl (fun W' hW'=>hp W' (hW'.mono fun k hk=>?_)) ho⟩;rcases hk with(e|e|e)|e
 ·exact .inl e
 all_goals exact .inr o_
theorem QP.nm(h:QP g M a len cap O R4 N fl gl w W b c b' c' gs Q bb bn bc R)(hL:Lo g a len (S0 g) w.heap.size)(i:Nat)(hi:i<bn):
  (∃k0,W.cell? ⟨bb,i*6+1,none⟩=some (.string k0))/\W.frozen? ⟨bb,i*6+1,none⟩=false/\∀n:ByteArray,n.size<=100000->∃R',CP g M a len cap O R4 N fl w (W.setCell ⟨bb,i*6+1,none⟩ (.string n)) (.slice (some ⟨bb,0,none⟩) bn bc) (.slice (some ⟨b,0,none⟩) gl c) b' c' gs Q R':=by
 obtain⟨x,hx,hz,ho,hl,hp,hs⟩:=h.put hL i hi 1 o_;obtain⟨l0,l1,l2,l3,l4⟩:=h.pp.lo;have Jb:=h.pp.rng;have Ja:=h.br.rng bb rfl;refine⟨⟨_,hx⟩,hz,fun n hn=>hs _ ⟨⟨x.s.kind,n,x.s.e,x.s.f,x.s.thn,x.s.els⟩,x.ve,x.vf,[],[]⟩ rfl (fun W' hW'=>hp W' (hW'.mono fun k hk=>?_)) ⟨ho.1,ho.2.1,hn⟩⟩;rcases hk with(e|e|e)|e
 ·exact .inl e
 all_goals exact .inr o_
theorem QP.thn(h:QP g M a len cap O R4 N fl gl w W b c b' c' gs Q bb bn bc R)(hL:Lo g a len (S0 g) w.heap.size)(i:Nat)(hi:i<bn):
  (∃k0:Int,W.cell? ⟨bb,i*6+4,none⟩=some (.int .i64 k0))/\W.frozen? ⟨bb,i*6+4,none⟩=false/\∀n:Int,∃R',CP g M a len cap O R4 N fl w (W.setCell ⟨bb,i*6+4,none⟩ (.int .i64 n)) (.slice (some ⟨bb,0,none⟩) bn bc) (.slice (some ⟨b,0,none⟩) gl c) b' c' gs Q R':=by
 obtain⟨x,hx,hz,ho,hl,hp,hs⟩:=h.put hL i hi 4 o_;obtain⟨l0,l1,l2,l3,l4⟩:=h.pp.lo;have Jb:=h.pp.rng;have Ja:=h.br.rng bb rfl;refine⟨⟨_,hx⟩,hz,fun n=>hs _ ⟨⟨x.s.kind,x.s.name,x.s.e,x.s.f,n,x.s.els⟩,x.ve,x.vf,[],[]⟩ rfl (fun W' hW'=>hp W' (hW'.mono fun k hk=>?_)) ho⟩;rcases hk with(e|e|e)|e
 ·exact .inl e
 all_goals exact .inr o_
theorem QP.ex(h:QP g M a len cap O R4 N fl gl w W b c b' c' gs Q bb bn bc R)(hL:Lo g a len (S0 g) w.heap.size)(i:Nat)(hi:i<bn):
  (∃va vn vc es,W.cell? ⟨bb,i*6+2,none⟩=some (.slice va vn vc)/\bI es 3000/\∀W',am (fun k=>k<M∨w.heap.size<=k) W W'->ax W' (.slice va vn vc) es)/\W.frozen? ⟨bb,i*6+2,none⟩=false/\∀(ve:Value) (B:Nat) (e:List Nd),aF B W ve e->(bb<B/\O<B/\b'<B)->bI e 5000->∃R',CP g M a len cap O R4 N fl w (W.setCell ⟨bb,i*6+2,none⟩ ve) (.slice (some ⟨bb,0,none⟩) bn bc) (.slice (some ⟨b,0,none⟩) gl c) b' c' gs Q R':=by
 obtain⟨x,hx,hz,ho,hl,hp,hs⟩:=h.put hL i hi 2 o_;obtain⟨l0,l1,l2,l3,l4⟩:=h.pp.lo;have Jb:=h.pp.rng;have Jc:=h.br.rng bb rfl;refine⟨?_,hz,fun ve B e hr hB hn=>hs _ ⟨⟨x.s.kind,x.s.name,e,x.s.f,x.s.thn,x.s.els⟩,ve,x.vf,[],[]⟩ rfl (fun W' hW'=>⟨fV hr (fun k hk=>?_) W' hW',(hp W' (hW'.mono fun k hk=>?_)).2⟩) ⟨hn,ho.2.1,ho.2.2⟩⟩
 ·have h1:=fun W' hW'=>(hp W' hW').1;obtain⟨va,vc,ev,-⟩:=(h1 W (am.refl _ _));have Ja:W.cell? ⟨bb,i*6+2,none⟩=some x.ve:=hx;rw[ev]at Ja;refine⟨va,_,vc,x.s.e,Ja,⟨hl,ho.1.2⟩,fun W' hW'=>?_⟩;have:=h1 W' hW'
  rw[ev]at this;exact this
 ·rcases hk with(e|e|e)|e <;> omega
 ·rcases hk with(e|e|e)|e
  ·exact .inl e
  all_goals exact .inr o_
theorem QP.fput(h:QP g M a len cap O R4 N fl gl w W b c b' c' gs Q bb bn bc R)(hL:Lo g a len (S0 g) w.heap.size)(f:Nat)(hf:f<fl)(cc:Nat)(hc:cc<3):
  ∃x,W.cell? ⟨b',f*3+cc,none⟩=(a7 x)[cc]? /\ W.frozen? ⟨b',f*3+cc,none⟩=false/\qY x.f/\x.f.params.length<=20/\(∀W',am (fun k=>k<M∨w.heap.size<=k) W W'->Strs W' x.vp x.f.params/\xM W' x.vb x.R/\x.R.map (·.s)=x.f.body) /\
   ∀(u:Value) (x':FV),a7 x'=(a7 x).set cc u->(∀W',am (fun k=>(k<M∨k=R4)∨k=b') W W'->Strs W' x'.vp x'.f.params/\xM W' x'.vb x'.R/\x'.R.map (·.s)=x'.f.body)->qY x'.f->∃Q',CP g M a len cap O R4 N fl w (W.setCell ⟨b',f*3+cc,none⟩ u) (.slice (some ⟨bb,0,none⟩) bn bc) (.slice (some ⟨b,0,none⟩) gl c) b' c' gs Q' R:=by
 obtain⟨l0,l1,l2,l3,l4⟩:=h.pp.lo;obtain⟨q1,q2,q3,q4,q5,q6⟩:=h.pp.ln;obtain⟨r1,r2,r3⟩:=h.rl;obtain⟨b1,b2,b3⟩:=h.bne;obtain⟨e1,e2,e3⟩:=h.pp.ne;obtain⟨⟨s1,s2⟩,s3,s4⟩:=h.pp.rng;have Jc:f<Q.length:=o_;have Ji:=h.br.rng bb rfl;have Jd:=h.pp.fr;have Je:W.ownsRow N 43 3 (.slice (some ⟨b',0,none⟩) fl c') Q.length (a_ Q):=Jd.row.row;have Ja:W.ownsRow N 43 3 (.slice (some ⟨b',0,none⟩) fl c') fl (a_ Q):=by have h0:=Je;rw[q1]at h0;exact h0
 have Jh:=eI Q;refine⟨Q[f],?_,World.ownsRow.frozenAt Ja _,Jd.ok _ (g_ Jc),(h.pp.ob _ (g_ Jc)).2.2.1,fun W' hW'=>Jd.row.st W' (hW'.mono fun k hk=>.inl hk) _ (g_ Jc),fun u x' hx hp ho=>?_⟩
 ·rw[World.ownsRow.cellAt Ja (f*3+cc) o_,eJ Q f cc Jc hc]
 ·have Jb:F2 (fun k=>k<M∨k=R4) N W (.slice (some ⟨b',0,none⟩) fl c') Q:=Jd.less (fun k hk=>by rcases hk with e|e;exact .inl e;exact .inr o_);have Jg:=Jb.put f cc u x' Jc hc hx hp ho;have t1:am (fun k=>k=b') W (W.setCell ⟨b',f*3+cc,none⟩ u):=(am.refl (fun k=>k=b') W).setCell (p:=⟨b',f*3+cc,none⟩) rfl _;have Jf:BR (fun k=>k<M∨w.heap.size<=k) N (W.setCell ⟨b',f*3+cc,none⟩ u) (.slice (some ⟨bb,0,none⟩) bn bc) R:=⟨h.br.row.past t1 (fun k hk=>.inr o_) (fun k hk e=>by simp only[Value.ownBlock,Option.some.injEq]at hk;have e:k=b':=e;omega),h.br.ok⟩;refine⟨_,h.pp.box.tcs l4 t1 (fun e=>e2 e),h.pp.res.tcs o_ t1 (fun e=>by have e:R4=b':=e;omega),fx h.pp.gr t1 (fun k hk e=>by simp only[Value.ownBlock,Option.some.injEq]at hk;have e:k=b':=e;omega),Jg,⟨Jf.row.less (fun k hk=>by rcases hk with e|e|e;exact .inl e;exact .inr o_;exact .inr o_),Jf.ok⟩,⟨by rw[List.length_set];exact q1,q3,o_,o_⟩,h.pp.gn,h.pp.cur.new hL t1 (fun k hk=>by omega),h.pp.tcs.next t1 (fun k hk=>.inr o_),⟨e2,o_,fun k hk=>?_,fun k hk=>?_⟩,⟨l0,l1,l2,o_⟩⟩
  ·simp only[Value.ownBlock,Option.some.injEq]at hk;omega
  ·simp only[Value.ownBlock,Option.some.injEq]at hk;omega
theorem QP.fnm(h:QP g M a len cap O R4 N fl gl w W b c b' c' gs Q bb bn bc R)(hL:Lo g a len (S0 g) w.heap.size)(f:Nat)(hf:f<fl):
  (∃k0,W.cell? ⟨b',f*3,none⟩=some (.string k0))/\W.frozen? ⟨b',f*3,none⟩=false/\∀n:ByteArray,n.size<=100000->∃Q',CP g M a len cap O R4 N fl w (W.setCell ⟨b',f*3,none⟩ (.string n)) (.slice (some ⟨bb,0,none⟩) bn bc) (.slice (some ⟨b,0,none⟩) gl c) b' c' gs Q' R:=by
 obtain⟨x,hx,hz,ho,hl,hp,hs⟩:=h.fput hL f hf 0 o_;obtain⟨l0,l1,l2,l3,l4⟩:=h.pp.lo;have Ja:=h.pp.rng;refine⟨⟨_,hx⟩,hz,fun n hn=>hs _ ⟨⟨n,x.f.params,x.f.body⟩,x.vp,x.vb,x.R,[],[]⟩ rfl (fun W' hW'=>hp W' (hW'.mono fun k hk=>?_)) ⟨hn,ho.pl,ho.pn,ho.bu,ho.st⟩⟩;rcases hk with(e|e)|e
 ·exact .inl e
 all_goals exact .inr o_
theorem QP.fps(h:QP g M a len cap O R4 N fl gl w W b c b' c' gs Q bb bn bc R)(hL:Lo g a len (S0 g) w.heap.size)(f:Nat)(hf:f<fl):
  (∃va vn vc ps,W.cell? ⟨b',f*3+1,none⟩=some (.slice va vn vc)/\(ps.length<=20/\∀p∈ps,p.size<=100000)/\∀W',am (fun k=>k<M∨w.heap.size<=k) W W'->Strs W' (.slice va vn vc) ps)/\W.frozen? ⟨b',f*3+1,none⟩=false/\∀(vp:Value) (B:Nat) (ps:List ByteArray),W.ownsRow B 9 1 vp ps.length (ps.map Value.string)->(O<B/\b'<B)->(ps.length<=30/\∀p∈ps,p.size<=100000)->∃Q',CP g M a len cap O R4 N fl w (W.setCell ⟨b',f*3+1,none⟩ vp) (.slice (some ⟨bb,0,none⟩) bn bc) (.slice (some ⟨b,0,none⟩) gl c) b' c' gs Q' R:=by
 obtain⟨x,hx,hz,ho,hl,hp,hs⟩:=h.fput hL f hf 1 o_;obtain⟨l0,l1,l2,l3,l4⟩:=h.pp.lo;have Jb:=h.pp.rng;refine⟨?_,hz,fun vp B ps hr hB hn=>hs _ ⟨⟨x.f.name,ps,x.f.body⟩,vp,x.vb,x.R,[],[]⟩ rfl (fun W' hW'=>⟨e_ (az hr hW' (fun k hk=>?_)),(hp W' (hW'.mono fun k hk=>?_)).2⟩) ⟨ho.nm,hn.1,hn.2,ho.bu,ho.st⟩⟩
 ·have h1:=fun W' hW'=>(hp W' hW').1;obtain⟨va,vc,ev,-⟩:=(h1 W (am.refl _ _));have Ja:W.cell? ⟨b',f*3+1,none⟩=some x.vp:=hx;rw[ev]at Ja;refine⟨va,_,vc,x.f.params,Ja,⟨hl,ho.pn⟩,fun W' hW'=>?_⟩;have:=h1 W' hW'
  rw[ev]at this;exact this
 ·rcases hk with(e|e)|e <;> omega
 ·rcases hk with(e|e)|e
  ·exact .inl e
  all_goals exact .inr o_
end
section
variable{g M len cap O R4 N fl gl b c b' c' bb bn bc B:Nat}{a:Option Addr}{w W W':World}{gs:List Gl}{Q:List FV}{R:List SV}{S:Nat->Prop}{vb v:Value}
theorem QP.past(h:QP g M a len cap O R4 N fl gl w W b c b' c' gs Q bb bn bc R)(ht:am S W W')(hc:dP g a len cap W')(hS:∀k,S k->(k=g∨w.heap.size<=k)/\k≠O/\k≠R4/\k≠b/\k≠b'/\k≠bb):QP g M a len cap O R4 N fl gl w W' b c b' c' gs Q bb bn bc R:=
 ⟨h.pp.past ht hc (fun k hk=>by obtain⟨h1,h2,h3,h4,h5,-⟩:=hS k hk;exact⟨h1,h2,h3,h4,h5⟩),⟨h.br.row.past ht (fun k hk=>(hS k hk).1.imp (fun e=>by have:=h.pp.lo;omega) id) (fun k hk e=>by
  simp only[Value.ownBlock,Option.some.injEq]at hk;exact(hS k e).2.2.2.2.2 hk.symm),h.br.ok⟩,h.rl,h.es,h.bne⟩
theorem QP.new(h:QP g M a len cap O R4 N fl gl w W b c b' c' gs Q bb bn bc R)(hL:Lo g a len (S0 g) w.heap.size)(ht:am S W W')(hS:∀k,S k->B<=k)(hB:O<B/\b<B/\b'<B/\bb<B):QP g M a len cap O R4 N fl gl w W' b c b' c' gs Q bb bn bc R:=by
 obtain⟨l0,l1,l2,l3,l4⟩:=h.pp.lo;refine h.past ht (h.pp.cur.new hL ht (fun k hk=>by have:=hS k hk;omega)) (fun k hk=>?_);have:=hS k hk;exact⟨.inr o_,o_,o_,o_,o_,o_⟩
theorem QP.hi(h:QP g M a len cap O R4 N fl gl w W b c b' c' gs Q bb bn bc R):O<W.heap.size/\b<W.heap.size/\b'<W.heap.size/\bb<W.heap.size:=
 ⟨h.pp.lo.2.2.2.2,h.pp.rng.1.2,h.pp.rng.2.2,(h.br.rng bb rfl).2⟩
structure RP (g M:Nat) (a:Option Addr) (len cap O R4 N fl gl:Nat) (w W:World) (b c b' c':Nat) (gs:List Gl) (Q:List FV) (vb:Value) (R:List SV):Prop where
 pp:PP g M a len cap O R4 N fl gl w W b c b' c' gs Q
 br:BR (fun k=>k<M∨k=R4∨k=b') N W vb R
 bne:∀k,vb.ownBlock=some k->k≠O/\k≠b/\k≠b'
theorem QP.rp(h:QP g M a len cap O R4 N fl gl w W b c b' c' gs Q bb bn bc R):RP g M a len cap O R4 N fl gl w W b c b' c' gs Q (.slice (some ⟨bb,0,none⟩) bn bc) R:=
 ⟨h.pp,h.less,fun k hk=>by simp only[Value.ownBlock,Option.some.injEq]at hk;have:=h.bne;omega⟩
theorem RP.cp(h:RP g M a len cap O R4 N fl gl w W b c b' c' gs Q vb R)(hl:R.length<=20000):CP g M a len cap O R4 N fl w W vb (.slice (some ⟨b,0,none⟩) gl c) b' c' gs Q R:=h.pp.cp h.br hl (fun k hk=>(h.bne k hk).2.2)
theorem RP.dr(h:RP g M a len cap O R4 N fl gl w W b c b' c' gs Q vb R)(hd:Dr g a len cap (S0 g) W W'):RP g M a len cap O R4 N fl gl w W' b c b' c' gs Q vb R:=
 ⟨h.pp.dr hd,⟨h.br.row.past hd.tcs (fun k hk=>.inl (by have e:k=g:=hk;have:=h.pp.lo;omega)) (fun k hk e=>by
  have e:k=g:=e;have:=(h.br.rng k hk).1
  have:=h.pp.lo
  omega),h.br.ok⟩,h.bne⟩
theorem RP.below(h:RP g M a len cap O R4 N fl gl w W b c b' c' gs Q vb R)(hb:Below W.heap.size W W'):RP g M a len cap O R4 N fl gl w W' b c b' c' gs Q vb R:=
 ⟨h.pp.below hb,h.br.below hb,h.bne⟩
theorem RP.app(h:RP g M a len cap O R4 N fl gl w W b c b' c' gs Q vb R)(hL:Lo g a len (S0 g) w.heap.size)(hl:R.length<=15000)(kd k v:Int)(nm s:ByteArray)(hn:nm.size<=100000)(hs:s.size<=100000):
  ∃va vn vc w3,(Builtin.append_ #[41,41] 41 #[vb,.slice (some ⟨W.heap.size+1,0,none⟩) 1 1]).run prog ((W.alloc (.cells #[.int .i64 k,.int .i64 v,.string s] 48)).alloc (.cells #[.int .i64 kd,.string nm,.slice (some ⟨W.heap.size,0,none⟩) 1 1,.slice none 0 0,.int .i64 0,.int .i64 0] 46))=.ok (.slice va vn vc) w3/\vn=R.length+1/\∃R',R'.length=R.length+1/\RP g M a len cap O R4 N fl gl w w3 b c b' c' gs Q (.slice va vn vc) R':=by
 obtain⟨l0,l1,l2,l3,l4⟩:=h.pp.lo;obtain⟨i0,hi,Ji,Jm,Jk⟩:=info_parts gz;obtain⟨⟨s1,s2⟩,s3,s4⟩:=h.pp.rng;have Jf:Bl W (W.alloc (.cells #[.int .i64 k,.int .i64 v,.string s] 48)):=aD _ _;have Jg:=aQ W W.heap.size n_ k v s;have Jb:(W.alloc (.cells #[.int .i64 k,.int .i64 v,.string s] 48)).heap.size=W.heap.size+1:=i_;obtain⟨W1,Jn⟩:=q_ (W.alloc (.cells #[.int .i64 k,.int .i64 v,.string s] 48));rw[<-Jn]at Jf Jg Jb⊢;rw[<-Jb];have Jd:Bl W1 (W1.alloc (.cells #[.int .i64 kd,.string nm,.slice (some ⟨W.heap.size,0,none⟩) 1 1,.slice none 0 0,.int .i64 0,.int .i64 0] 46)):=aD _ _;have Ja:(W1.alloc (.cells #[.int .i64 kd,.string nm,.slice (some ⟨W.heap.size,0,none⟩) 1 1,.slice none 0 0,.int .i64 0,.int .i64 0] 46)).ownsRow W1.heap.size 46 6 (.slice (some ⟨W1.heap.size,0,none⟩) 1 1) 1 (bz [⟨⟨kd,nm,[⟨k,v,s⟩],[],0,0⟩,.slice (some ⟨W.heap.size,0,none⟩) 1 1,.slice none 0 0,[],[]⟩]):=World.ownsRow_lit W1 #[.int .i64 kd,.string nm,.slice (some ⟨W.heap.size,0,none⟩) 1 1,.slice none 0 0,.int .i64 0,.int .i64 0] 1 n_ d_ rfl;have Je:(W1.alloc (.cells #[.int .i64 kd,.string nm,.slice (some ⟨W.heap.size,0,none⟩) 1 1,.slice none 0 0,.int .i64 0,.int .i64 0] 46)).heap.size=W1.heap.size+1:=i_;obtain⟨W2,Jj⟩:=q_ (W1.alloc (.cells #[.int .i64 kd,.string nm,.slice (some ⟨W.heap.size,0,none⟩) 1 1,.slice none 0 0,.int .i64 0,.int .i64 0] 46));rw[<-Jj]at Jd Ja Je⊢;have h2:=(h.below Jf).below Jd;have Jl:aF W.heap.size W2 _ _:=aF.below Jg Jd;have Jc:=h.br.rng;have Jh:∀W',am (fun j=>(j<M∨j=R4∨j=b')∨vb.ownBlock=some j) W2 W'->qN [⟨⟨kd,nm,[⟨k,v,s⟩],[],0,0⟩,.slice (some ⟨W.heap.size,0,none⟩) 1 1,.slice none 0 0,[],[]⟩] W':=fun W' hW' x hx=>by
  simp only[List.mem_singleton]at hx;subst hx;refine⟨fV Jl (fun j hj=>?_) W' hW',aM W'⟩;rcases hj with(e|e|e)|e
  ·omega
  ·omega
  ·omega
  ·exact(Jc j e).2
 obtain⟨v',w3,r1,r2,r3,r4⟩:=jB (Pg:=prog) (w:=W2) (T:=46) (t:=41) (c:=1) (m:=1) (P2:=qN [⟨⟨kd,nm,[⟨k,v,s⟩],[],0,0⟩,.slice (some ⟨W.heap.size,0,none⟩) 1 1,.slice none 0 0,[],[]⟩]) 41 underlying41 hi Ji Jm Jk rfl d_ h2.br.row (some ⟨W1.heap.size,0,none⟩) (fun e=>by cases e) rfl (fun ad had j u hu=>by cases had;exact World.ownsRow.cells Ja (g:=W1.heap.size) rfl j u hu) (iK _ fun q hq=>by simp only[List.mem_singleton]at hq;subst hq;exact⟨rfl,rfl⟩) Jh o_ d_ o_;obtain⟨va,vc,rfl,-⟩:=au r2.row;refine⟨va,_,vc,w3,r1,rfl,R++[⟨⟨kd,nm,[⟨k,v,s⟩],[],0,0⟩,.slice (some ⟨W.heap.size,0,none⟩) 1 1,.slice none 0 0,[],[]⟩],i_,?_,⟨⟨?_,fun W' hW' x hx=>?_⟩,fun x hx=>?_⟩,fun j hj=>?_⟩
 ·refine h2.pp.past r3 (h2.pp.cur.new hL r3 (fun j hj=>by have:=(Jc j hj).1;omega)) (fun j hj=>?_);have:=(Jc j hj).1
  obtain⟨e1,e2,e3⟩:=h.bne j hj;exact⟨.inr o_,e1,o_,e2,e3⟩
 ·rw[l_a,fv];exact r2.row
 ·rcases List.mem_append.1 hx with hx|hx
  ·exact(r2.st W' hW').1 x hx
  ·exact(r2.st W' hW').2 x hx
 ·rcases List.mem_append.1 hx with hx|hx
  ·exact h.br.ok x hx
  ·simp only[List.mem_singleton]at hx;subst hx;exact⟨(bI.one hs).more o_,bI.nil.more o_,hn⟩
 ·rcases r4 j hj with h5|h5
  ·exact h.bne j h5
  ·omega
theorem ym(w:World)(va:Option Addr)(vn vc:Nat)(es:List Nd)(h:ax (w.alloc (.cells #[] 48)) (.slice va vn vc) es)(hl:es.length<=100000):
  ∃ua un uc w1,(Builtin.append_ #[44,44] 44 #[.slice (some ⟨w.heap.size,0,none⟩) 0 0,.slice va vn vc]).run prog (w.alloc (.cells #[] 48))=.ok (.slice ua un uc) w1/\aF w.heap.size w1 (.slice ua un uc) es/\Below w.heap.size w w1:=by
 have Ja:Bl w (w.alloc (.cells #[] 48)):=aD _ _;have h0:=cE w w.heap.size n_;obtain⟨v',w',r1,r2,r3,r4⟩:=fF w.heap.size 44 _ [] h0 (.slice va vn vc) es h (by simp;omega) Ja.size;obtain⟨ua,uc,rfl,-⟩:=au r2;exact⟨ua,_,uc,w',r1,by simpa using r2,Ja.grown r3 Ja.size (fun j hj=>(World.ownsRow.lt h0 j hj).1)⟩
theorem sK{ns:List Nd}(h:aF B w v ns)(hB:B<=w.heap.size)(k x:Int)(s:ByteArray)(hl:ns.length<=100000):
  ∃ua un uc w1,(Builtin.append_ #[44,44] 44 #[v,.slice (some ⟨w.heap.size,0,none⟩) 1 1]).run prog (w.alloc (.cells #[.int .i64 k,.int .i64 x,.string s] 48))=.ok (.slice ua un uc) w1/\un=ns.length+1/\aF B w1 (.slice ua un uc) (ns++[⟨k,x,s⟩])/\am (fun j=>B<=j) w w1:=by
 have Ja:Bl w (w.alloc (.cells #[.int .i64 k,.int .i64 x,.string s] 48)):=aD _ _;have h0:=aQ w w.heap.size n_ k x s;have hv:aF B (w.alloc (.cells #[.int .i64 k,.int .i64 x,.string s] 48)) v ns:=aF.below h Ja;obtain⟨v',w',r1,r2,r3,r4⟩:=fF B 44 v ns hv _ _ h0.nodes (by simp;omega) (t_ hB Ja.size);obtain⟨ua,uc,rfl,-⟩:=au r2;exact⟨ua,_,uc,w',r1,i_,by simpa using r2,(Ja.tcs).next (am.of_grown (S:=fun j=>B<=j) r3 (fun j hj=>(World.ownsRow.lt hv j hj).1)) (fun j hj=>.inl hj)⟩
theorem uE:∀(gs:List Gl) (n:Int) (hp:0<gs.length),bN (gs.set 0 ⟨gs[0].name,n⟩)=(bN gs).set 1 (.int .i64 n)
 | x::l,n,_=>rfl
theorem QP.gput(h:QP g M a len cap O R4 N fl gl w W b c b' c' gs Q bb bn bc R)(hL:Lo g a len (S0 g) w.heap.size):
  (∃k0:Int,W.cell? ⟨b,1,none⟩=some (.int .i64 k0))/\W.frozen? ⟨b,1,none⟩=false/\∀n:Int,∃gs',CP g M a len cap O R4 N fl w (W.setCell ⟨b,1,none⟩ (.int .i64 n)) (.slice (some ⟨bb,0,none⟩) bn bc) (.slice (some ⟨b,0,none⟩) gl c) b' c' gs' Q R:=by
 obtain⟨l0,l1,l2,l3,l4⟩:=h.pp.lo;obtain⟨q1,q2,q3,q4,q5,q6⟩:=h.pp.ln;obtain⟨r1,r2,r3⟩:=h.rl;obtain⟨b1,b2,b3⟩:=h.bne;obtain⟨e1,e2,e3⟩:=h.pp.ne;obtain⟨⟨s1,s2⟩,s3,s4⟩:=h.pp.rng;have Jb:W.ownsRow N 74 2 (.slice (some ⟨b,0,none⟩) gl c) gs.length (bN gs):=h.pp.gr;have Ja:W.ownsRow N 74 2 (.slice (some ⟨b,0,none⟩) gl c) gl (bN gs):=by have h0:=Jb;rw[q4]at h0;exact h0
 have Jf:=iQ gs;refine⟨⟨gs[0].size,?_⟩,World.ownsRow.frozenAt Ja _,fun n=>?_⟩
 ·rw[World.ownsRow.cellAt Ja 1 o_];exact gD gs 0 1 o_ o_
 ·have t1:am (fun k=>k=b) W (W.setCell ⟨b,1,none⟩ (.int .i64 n)):=(am.refl (fun k=>k=b) W).setCell (p:=⟨b,1,none⟩) rfl _;have Je:GR N (W.setCell ⟨b,1,none⟩ (.int .i64 n)) (.slice (some ⟨b,0,none⟩) gl c) (gs.set 0 ⟨gs[0].name,n⟩):=by
   unfold GR;rw[List.length_set,uE gs n o_,q4];exact(Ja.stored 1 (.int .i64 n)).1
  have Jc:BR (fun k=>k<M∨w.heap.size<=k) N (W.setCell ⟨b,1,none⟩ (.int .i64 n)) (.slice (some ⟨bb,0,none⟩) bn bc) R:=⟨h.br.row.past t1 (fun k hk=>.inr o_) (fun k hk e=>by simp only[Value.ownBlock,Option.some.injEq]at hk;have e:k=b:=e;omega),h.br.ok⟩;have Jd:F2 (fun k=>k<M∨w.heap.size<=k) N (W.setCell ⟨b,1,none⟩ (.int .i64 n)) (.slice (some ⟨b',0,none⟩) fl c') Q:=⟨h.pp.fr.row.past t1 (fun k hk=>.inr o_) (fun k hk e=>by simp only[Value.ownBlock,Option.some.injEq]at hk;have e:k=b:=e;omega),h.pp.fr.ok⟩;refine⟨_,h.pp.box.tcs l4 t1 (fun e=>e1 e),h.pp.res.tcs o_ t1 (fun e=>by have e:R4=b:=e;omega),Je,Jd.less (fun k hk=>by rcases hk with e|e;exact .inl e;exact .inr o_),⟨Jc.row.less (fun k hk=>by rcases hk with e|e|e;exact .inl e;exact .inr o_;exact .inr o_),Jc.ok⟩,⟨q1,q3,by rw[List.length_set];omega,o_⟩,fun x hx=>?_,h.pp.cur.new hL t1 (fun k hk=>by omega),h.pp.tcs.next t1 (fun k hk=>.inr o_),⟨e2,o_,fun k hk=>?_,fun k hk=>?_⟩,⟨l0,l1,l2,o_⟩⟩
  ·rcases List.mem_or_eq_of_mem_set hx with hx|rfl
   ·exact h.pp.gn x hx
   ·exact h.pp.gn gs[0] (g_ _)
  ·simp only[Value.ownBlock,Option.some.injEq]at hk;omega
  ·simp only[Value.ownBlock,Option.some.injEq]at hk;omega
theorem QP.gapp(h:QP g M a len cap O R4 N fl gl w W b c b' c' gs Q bb bn bc R)(hL:Lo g a len (S0 g) w.heap.size)(nm:ByteArray)(hn:nm.size<=100000):
  (W.alloc (.cells #[.string nm,.int .i64 0] 74)).cell? ⟨O,0,none⟩=some (.slice (some ⟨b,0,none⟩) gl c)/\∃ya yn yc w',(Builtin.append_ #[23,23] 23 #[.slice (some ⟨b,0,none⟩) gl c,.slice (some ⟨W.heap.size,0,none⟩) 1 1]).run prog (W.alloc (.cells #[.string nm,.int .i64 0] 74))=.ok (.slice ya yn yc) w'/\(w'.cell? ⟨O,0,none⟩=some (.slice (some ⟨b,0,none⟩) gl c)/\w'.frozen? ⟨O,0,none⟩=false)/\∃gs',CP g M a len cap O R4 N fl w (w'.setCell ⟨O,0,none⟩ (.slice ya yn yc)) (.slice (some ⟨bb,0,none⟩) bn bc) (.slice ya yn yc) b' c' gs' Q R:=by
 have h1:=h.alloc (.cells #[.string nm,.int .i64 0] 74);have Jb:(W.alloc (.cells #[.string nm,.int .i64 0] 74)).ownsRow W.heap.size 74 2 (.slice (some ⟨W.heap.size,0,none⟩) 1 1) 1 (bN [⟨nm,0⟩]):=World.ownsRow_lit W #[.string nm,.int .i64 0] 1 n_ d_ rfl;have Jl:(W.alloc (.cells #[.string nm,.int .i64 0] 74)).heap.size=W.heap.size+1:=i_;obtain⟨W1,Jg⟩:=q_ (W.alloc (.cells #[.string nm,.int .i64 0] 74));rw[<-Jg]at h1 Jb Jl⊢;refine⟨(h1.pp.box 0 _ rfl).1,?_⟩;obtain⟨l0,l1,l2,l3,l4⟩:=h.pp.lo;obtain⟨q1,q2,q3,q4,q5,q6⟩:=h.pp.ln;obtain⟨r1,r2,r3⟩:=h.rl;obtain⟨b1,b2,b3⟩:=h.bne;obtain⟨e1,e2,e3⟩:=h.pp.ne;obtain⟨⟨s1,s2⟩,s3,s4⟩:=h.pp.rng;have Jo:=h.br.rng bb rfl;obtain⟨i0,hi,Ji,Je,Jk⟩:=info_parts iR;have Jd:W1.ownsRow N 74 2 (.slice (some ⟨b,0,none⟩) gl c) gs.length (bN gs):=h1.pp.gr;obtain⟨v',w',x1,x2,x3,x4⟩:=bS (P:=prog) (w:=W1) N 23 23 74 i0 _ 2 24 underlying23 hi Ji Je Jk rfl d_ _ gs.length (bN gs) Jd (some ⟨W.heap.size,0,none⟩) 1 1 (bN [⟨nm,0⟩]) (fun e=>by cases e) rfl (fun ad had j u hu=>by cases had;exact World.ownsRow.cells Jb (g:=W.heap.size) rfl j u hu) (fun u hu=>by simp[bN,qc]at hu;rcases hu with rfl|rfl <;> rfl) o_ d_ o_;obtain⟨ya,yc,rfl,-⟩:=au x2;have t1:am (fun k=>k=b) W1 w':=am.of_grown x3 (fun k hk=>by simp only[Value.ownBlock,Option.some.injEq]at hk;exact hk.symm);have Ja:=h1.pp.box.tcs o_ t1 (fun e=>e1 e);refine⟨ya,_,yc,w',x1,Ja 0 _ rfl,gs++[⟨nm,0⟩],?_⟩;have Jm:Bl W W1:=by rw[Jg];exact r_.alloc n_ _
 have t2:am (fun k=>k=O) w' (w'.setCell ⟨O,0,none⟩ (.slice ya (gs.length+1) yc)):=(am.refl (fun k=>k=O) w').setCell (p:=⟨O,0,none⟩) rfl _;have Jn:=t1.size;have ho:∀k,(Value.slice ya (gs.length+1) yc).ownBlock=some k->k=b∨W1.heap.size<=k:=fun k hk=>by
  rcases x4 k hk with e|e
  ·simp only[Value.ownBlock,Option.some.injEq]at e;exact .inl e.symm
  ·exact .inr e
 have Jj:GR N (w'.setCell ⟨O,0,none⟩ (.slice ya (gs.length+1) yc)) (.slice ya (gs.length+1) yc) (gs++[⟨nm,0⟩]):=by
  have:=fx x2 t2 (fun k hk e=>by have e:k=O:=e;rcases ho k hk with h|h <;> omega)
  unfold GR;rw[l_a];have e:bN (gs++[⟨nm,0⟩])=bN gs++bN [⟨nm,0⟩]:=by simp[bN]
  rw[e];exact this
 have Jc:am (fun k=>k=b∨k=O) W1 (w'.setCell ⟨O,0,none⟩ (.slice ya (gs.length+1) yc)):=(t1.mono fun k hk=>.inl hk).next t2 (fun k hk=>.inl (.inr hk));have Jf:BR (fun k=>k<M∨w.heap.size<=k) N (w'.setCell ⟨O,0,none⟩ (.slice ya (gs.length+1) yc)) (.slice (some ⟨bb,0,none⟩) bn bc) R:=⟨h1.br.row.past Jc (fun k hk=>.inr o_) (fun k hk e=>by simp only[Value.ownBlock,Option.some.injEq]at hk;have e:k=b∨k=O:=e;omega),h.br.ok⟩;have Jh:F2 (fun k=>k<M∨w.heap.size<=k) N (w'.setCell ⟨O,0,none⟩ (.slice ya (gs.length+1) yc)) (.slice (some ⟨b',0,none⟩) fl c') Q:=⟨h1.pp.fr.row.past Jc (fun k hk=>.inr o_) (fun k hk e=>by simp only[Value.ownBlock,Option.some.injEq]at hk;have e:k=b∨k=O:=e;omega),h.pp.fr.ok⟩;refine⟨Ja.set 0 _,(h1.pp.res.tcs o_ Jc (fun e=>by have e:R4=b∨R4=O:=e;omega)),Jj,Jh.less (fun k hk=>by rcases hk with e|e;exact .inl e;exact .inr o_),⟨Jf.row.less (fun k hk=>by rcases hk with e|e|e;exact .inl e;exact .inr o_;exact .inr o_),Jf.ok⟩,⟨q1,q3,by simp;omega,o_⟩,fun x hx=>?_,h1.pp.cur.new hL Jc (fun k hk=>by omega),h1.pp.tcs.next Jc (fun k hk=>.inr o_),⟨e2,o_,fun k hk=>?_,fun k hk=>?_⟩,⟨l0,l1,l2,o_⟩⟩
 ·rcases List.mem_append.1 hx with hx|hx
  ·exact h.pp.gn x hx
  ·simp only[List.mem_singleton]at hx;subst hx;exact hn
 ·rcases ho k hk with h|h <;> omega
 ·simp only[Value.ownBlock,Option.some.injEq]at hk;omega
theorem lQ{e0:Nat}(h0:w.ownsRow B 9 1 (.slice (some ⟨e0,0,none⟩) 0 0) 0 [])(hB:B<=w.heap.size)(va:Option Addr)(vn vc:Nat)(ps:List ByteArray)(h:Strs w (.slice va vn vc) ps)(hl:ps.length<=100000):
  ∃ua un uc w1,(Builtin.append_ #[40,40] 40 #[.slice (some ⟨e0,0,none⟩) 0 0,.slice va vn vc]).run prog w=.ok (.slice ua un uc) w1/\w1.ownsRow B 9 1 (.slice ua un uc) ps.length (ps.map Value.string)/\am (fun j=>j=e0) w w1/\∀k,(Value.slice ua un uc).ownBlock=some k->k=e0∨w.heap.size<=k:=by
 obtain⟨i0,hi,Ja,Jc,Jb⟩:=info_parts gA;obtain⟨a,c,e,hn,hc⟩:=h.src;simp only[Value.slice.injEq]at e;obtain⟨rfl,rfl,rfl⟩:=e;obtain⟨v1,w1,r1,o1,g1,f1⟩:=bS (P:=prog) (w:=w) B 40 40 9 i0 _ 1 16 underlying40 hi Ja Jc Jb rfl d_ _ 0 [] h0 va ps.length vc (ps.map Value.string) (fun e=>by rw[hn e];rfl) i_ hc (fun u hu=>by obtain⟨x,-,rfl⟩:=List.mem_map.1 hu;rfl) o_ d_ hB;obtain⟨ua,uc,rfl,-⟩:=au o1;refine⟨ua,_,uc,w1,r1,by simpa using o1,am.of_grown g1 (fun j hj=>by simp only[Value.ownBlock,Option.some.injEq]at hj;exact hj.symm),fun k hk=>?_⟩;rcases f1 k hk with h|h
 ·simp only[Value.ownBlock,Option.some.injEq]at h;exact .inl h.symm
 ·exact .inr h
theorem om{ps:List ByteArray}(h:w.ownsRow B 9 1 v ps.length (ps.map Value.string))(hB:B<=w.heap.size)(nm:ByteArray)(hl:ps.length<=100000):
  ∃ua un uc w1,(Builtin.append_ #[40,40] 40 #[v,.slice (some ⟨w.heap.size,0,none⟩) 1 1]).run prog (w.alloc (.cells #[.string nm] 9))=.ok (.slice ua un uc) w1/\w1.ownsRow B 9 1 (.slice ua un uc) (ps++[nm]).length ((ps++[nm]).map Value.string)/\am (fun j=>B<=j) w w1:=by
 obtain⟨i0,hi,Je,Jd,Jc⟩:=info_parts gA;have Ja:Bl w (w.alloc (.cells #[.string nm] 9)):=aD _ _;have h':=ownB h Ja;have Jb:(w.alloc (.cells #[.string nm] 9)).ownsRow w.heap.size 9 1 (.slice (some ⟨w.heap.size,0,none⟩) 1 1) 1 [.string nm]:=World.ownsRow_lit w #[.string nm] 1 n_ d_ rfl;obtain⟨v2,w2,r2,o2,g2,-⟩:=bS (P:=prog) (w:=w.alloc (.cells #[.string nm] 9)) B 40 40 9 i0 _ 1 16 underlying40 hi Je Jd Jc rfl d_ v _ _ h' (some ⟨w.heap.size,0,none⟩) 1 1 [.string nm] (fun e=>by cases e) rfl (fun ad had j u hu=>by cases had;exact World.ownsRow.cells Jb (g:=w.heap.size) rfl j u hu) (fun u hu=>by simp at hu;subst hu;rfl) o_ d_ (t_ hB Ja.size);obtain⟨a2,c2,rfl,-⟩:=au o2;refine⟨a2,_,c2,w2,r2,?_,(Ja.tcs).next (am.of_grown (S:=fun j=>B<=j) g2 (fun j hj=>(World.ownsRow.lt h' j hj).1)) (fun j hj=>.inl hj)⟩;have e1:(ps++[nm]).length=ps.length+1:=i_;have e2:(ps++[nm]).map Value.string=ps.map Value.string++[.string nm]:=i_;rw[e1,e2];exact o2
theorem QP.pick(h:QP g M a len cap O R4 N fl gl w W b c b' c' gs Q bb bn bc R)(hl:len<=1048576)(hL:Lo g a len (S0 g) w.heap.size)(ps:List ByteArray)(cs:Array Value)(n:Nat)(hn:n=ps.length)(Jb:cs.toList=ps.map Value.string)(hb:1<=n/\n<=1000)(hs:ps.all (fun p=>decide (p.size<=100000))=true):
  Calls prog 67 #[.pointer (some ⟨g,0,none⟩),.slice (some ⟨W.heap.size,0,none⟩) n n] (W.alloc (.cells cs 9)) fun e w'=>∃s,s.size<=100000/\e=.returned (.string s)/\QP g M a len cap O R4 N fl gl w w' b c b' c' gs Q bb bn bc R:=by
 have Ja:S0 g g:=rfl;have Jc:=h.pp.lo;refine(eh g a len cap (S0 g) ps _ _ hl Ja (h.alloc _).pp.cur (jh ps cs n hn Jb hb.2 (fun k hk=>by have e:k=g:=hk;omega)) o_).mono ?_;rintro e w' ⟨s,hm,rfl,hd⟩;exact⟨s,by simpa using List.all_eq_true.1 hs s hm,rfl,(h.alloc _).dr hd⟩
theorem QP.low(h:QP g M a len cap O R4 N fl gl w W b c b' c' gs Q bb bn bc R):∀k,S0 g k->k<W.heap.size:=fun k hk=>by have e:k=g:=hk;have:=h.pp.lo;omega
end
section
variable{g M len cap O R4 N fl gl b c b' c' bb bn bc n vn xn k:Nat}{a:Option Addr}{w W X:World}{gs:List Gl}{Q:List FV}{R:List SV}{y:Int}{s:ByteArray}{ps:List ByteArray}
theorem QP.drew(h:QP g M a len cap O R4 N fl gl w W b c b' c' gs Q bb bn bc R):QP g M a len cap O R4 N fl gl w W.drew b c b' c' gs Q bb bn bc R:=h.below r_.drew
theorem QP.rlen(h:QP g M a len cap O R4 N fl gl w W b c b' c' gs Q bb bn bc R):R.length<=15000:=by have:=h.rl;omega
theorem QP.rlen'{R':List SV}(h:QP g M a len cap O R4 N fl gl w W b c b' c' gs Q bb bn bc R)(he:R'.length=R.length+1):R'.length<=20000:=by have:=h.rl;omega
theorem sL{f:Nat}(h:f<n):(0:Int)<=(f:Int)/\(f:Int)<(n:Int):=by omega
theorem yo(h:n<=3000):n<=100000:=by omega
theorem Am(h:n<=2100):n<=100000:=by omega
theorem D9(h:n<=10000):n<=15000:=by omega
theorem Ea(h:n<=10000):n<=20000:=by omega
def Eb:Value->Nat
 | .slice _ n _=>n
 | _=>0
theorem uF{n':Nat}(hy:y<2)(Ja:(vn:Int)<500+y)(hv:vn=n)(hx:xn=n+1)(hn:n'=n+1):xn=n'/\n'<=10000/\502-xn<502-vn:=by omega
theorem ri{ns:List Nd}{k x:Int}(hy:y<60)(Ja:(vn:Int)<1960+y)(hv:vn=ns.length)(hx:xn=ns.length+1)(ho:bI ns 2100)(hs:s.size<=100000):xn=(ns++[(⟨k,x,s⟩:Nd)]).length/\(ns++[(⟨k,x,s⟩:Nd)]).length<=2100/\bI (ns++[⟨k,x,s⟩]) 2100/\2100-xn<2100-vn:=by
 have h1:(ns++[(⟨k,x,s⟩:Nd)]).length=ns.length+1:=i_;refine⟨o_,o_,⟨o_,fun n hn=>?_⟩,o_⟩;rcases List.mem_append.1 hn with hn|hn
 ·exact ho.2 n hn
 ·simp only[List.mem_singleton]at hn;subst hn;exact hs
theorem dT(w:World)(o:Obj):w.heap.size<=(w.alloc o).heap.size:=by simp
theorem QP.keep(h:QP g M a len cap O R4 N fl gl w W b c b' c' gs Q bb bn bc R){x:Nat}{p q:Value}(hs:W.cell? ⟨O,1,none⟩=some p/\W.cell? ⟨b',x,none⟩=some q)(ht:am (fun k=>k=g∨W.heap.size<=k) W X):X.cell? ⟨O,1,none⟩=some p/\X.cell? ⟨b',x,none⟩=some q:=by
 obtain⟨l0,l1,l2,l3,l4⟩:=h.pp.lo;obtain⟨⟨s1,s2⟩,s3,s4⟩:=h.pp.rng;exact⟨(c_ (ht.block O l4 (fun e=>by have e:O=g∨W.heap.size<=O:=e;omega))).trans hs.1,(c_ (ht.block b' s4 (fun e=>by have e:b'=g∨W.heap.size<=b':=e;omega))).trans hs.2⟩
theorem j0(h:s∈ps)(hs:ps.all (fun p=>decide (p.size<=100000))=true):s.size<=100000:=by simpa using List.all_eq_true.1 hs s h
section
variable{P:Program}{ops:Array Oper}{Q:Exit->Act->World->Prop}{md:Region.Mode}{S:World->Prop}{l:Nat}
theorem ko{i j:Nat}{oi oj:Oper}{fuel:Nat}{listed:Array Bool}{a:Act}(hr:Region.ready md ops listed=[i,j])(hi:ops[i]? =some oi)(hj:ops[j]? =some oj)
  (h1:∀K:Act->World->Prop,Shut (∀a' w',(i≠l->S w')->cA P md ops Q S l fuel (listed.setIfInBounds i true) a' w'->K a' w')->if Region.wanted oi (yielded ops a.tmps)=true then oi.wp P a w K Q else K (a.put oi.dst undef) w)
  (h2:∀K:Act->World->Prop,Shut (∀a' w',(j≠l->S w')->cA P md ops Q S l fuel (listed.setIfInBounds j true) a' w'->K a' w')->if Region.wanted oj (yielded ops a.tmps)=true then oj.wp P a w K Q else K (a.put oj.dst undef) w):cA P md ops Q S l (fuel+1) listed a w:=by
 have Ja:∀(x:Nat) (o:Oper),ops[x]? =some o->(∀K:Act->World->Prop,Shut (∀a' w',(x≠l->S w')->cA P md ops Q S l fuel (listed.setIfInBounds x true) a' w'->K a' w')->if Region.wanted o (yielded ops a.tmps)=true then o.wp P a w K Q else K (a.put o.dst undef) w)->wpOp P ops Q x (fun a' w'=>(x≠l->S w')/\cA P md ops Q S l fuel (listed.setIfInBounds x true) a' w') a w:=fun x o ho h=>by
  unfold wpOp;simp only[ho];have:=h (fun a' w'=>(x≠l->S w')/\cA P md ops Q S l fuel (listed.setIfInBounds x true) a' w') (fun a' w' h1 h2=>⟨h1,h2⟩)
  split
  ·rename_i hw;rw[if_pos hw]at this;exact .inl this
  ·rename_i hw;rw[if_neg hw]at this;exact this
 refine⟨fun h0=>(by rw[hr]at h0;cases h0),fun x hx=>?_⟩;rw[hr]at hx;simp only[List.mem_cons,List.not_mem_nil,or_false]at hx;rcases hx with rfl|rfl
 ·exact Ja x oi hi h1
 ·exact Ja x oj hj h2
end
theorem j1(h:n<=20):n<=100000:=by omega
theorem oq(w:World)(o p:Obj):w.heap.size<=((w.alloc o).alloc p).heap.size:=by simp;omega
theorem sM(h:k=n):n<=k:=by omega
theorem yp(h:k=n+1):n<=k:=by omega
theorem ow(h:ps.length<=20/\∀p∈ps,p.size<=100000)(hs:s.size<=100000):(ps++[s]).length<=30/\∀p∈ps++[s],p.size<=100000:=by
 refine⟨by simp;omega,fun p hp=>?_⟩;rcases List.mem_append.1 hp with hp|hp
 ·exact h.2 p hp
 ·simp only[List.mem_singleton]at hp;subst hp;exact hs
theorem Ec(w:World)(o:Obj):((w.alloc o).alloc (.cells #[] 9)).ownsRow w.heap.size 9 1 (.slice (some ⟨w.heap.size+1,0,none⟩) 0 0) 0 []:=by
 have:=World.ownsRow_lit (base:=w.heap.size) (w.alloc o) (e:=9) (size:=1) #[] 0 (dT w o) d_ rfl
 simpa using this
theorem Ed(ps:List ByteArray)(cs:Array Value)(Ja:cs.toList=ps.map Value.string)(hg:g<w.heap.size)(ht:am (fun j=>j=w.heap.size) ((w.alloc (.cells #[] 9)).alloc (.cells cs 9)) X)(hl:ps.length=4:=by rfl):∀W,am (S0 g) X W->Strs W (.slice (some ⟨w.heap.size+1,0,none⟩) 4 4) ps:=fun W hW=>by
 have h:=jh (S:=fun k=>k=g∨k=w.heap.size) (w:=w.alloc (.cells #[] 9)) ps cs 4 hl.symm Ja d_ (fun k hk=>by simp;omega) W ((ht.mono fun k hk=>.inr hk).next hW (fun k hk=>.inl (.inl hk)));simpa using h
theorem Ee(ps:List ByteArray)(cs:Array Value)(Ja:cs.toList=ps.map Value.string)(hg:g<w.heap.size)(ht:am (fun j=>j=w.heap.size+1) ((w.alloc (.cells cs 9)).alloc (.cells #[] 9)) X)(hl:ps.length=4:=by rfl):∀W,am (S0 g) X W->Strs W (.slice (some ⟨w.heap.size,0,none⟩) 4 4) ps:=fun W hW=>by
 have h0:am (S0 g) (w.alloc (.cells cs 9)) X:=((am.refl (S0 g) _).alloc (.cells #[] 9)).next ht (fun k hk=>.inr (by have e:k=w.heap.size+1:=hk;simp;omega));exact jh (S:=S0 g) (w:=w) ps cs 4 hl.symm Ja d_ (fun k hk=>by have e:k=g:=hk;omega) W (h0.trans hW)
end
end Go.Proofs.YtlamjfhhefcohaaGreatDoor
