import Derived.Test.YtffnkkpmlplfeaaGreatDoorF46
import Derived.Deep.CutRange
import Derived.Test.YtffnkkpmlplfeaaGreatDoorF10
import Derived.Test.YtffnkkpmlplfeaaGreatDoorF12
namespace Go.Proofs.YtffnkkpmlplfeaaGreatDoor
open Go.Value Go.World List
open Go.Proofs.Tryz Go.RowKit
set_option linter.all false
set_option maxRecDepth 100000
set_option maxHeartbeats 0
variable[Inhabited Pick]
section
variable{B:Nat}{w:AT}{v:BY}{zs:List Int}
def mA(B:Nat)(w:AT)(v:BY)(zs:List Int):Prop:=w.ownsRow B 2 1 v zs.length (zs.map (Value.int .i64))
def zR(w:AT):mA w.heap.size (w.alloc (.cells #[] 2)) (rV w.heap.size 0 0) []:=ownsRow_lit w #[] 0 n_ d_ rfl
def iI(h:mA B w v zs):∃a c,v=.slice a zs.length c:=by
 obtain⟨a,c,rfl,-⟩:=aI h;exact⟨a,c,rfl⟩
def pF(h:mA B w v zs):∀k,v.ownBlock=some k->B<=k:=λk hk=>(ownsRow.lt h k hk).1
def pG(z:Int)(U:GC)(h:mA B w v zs)(hB:B<=w.heap.size)(hl:zs.length<=5000):
  ∃va vn vc w',(Builtin.append_ #[26,26] U #[v,rV w.heap.size 1 1]).run prog (w.alloc (.cells #[V z] 2))=.ok (.slice va vn vc) w'/\vn=zs.length+1/\mA B w' (.slice va vn vc) (zs++[z])/\ak (λk=>v.ownBlock=some k) w w':=by
 obtain⟨Y,hi,Je,Jf,Jd⟩:=info_parts kq;have I:Bl w (w.alloc (.cells #[V z] 2)):=au _ _;have Jb:(w.alloc (.cells #[V z] 2)).ownsRow w.heap.size 2 1 (rV w.heap.size 1 1) 1 [V z]:=ownsRow_lit w #[V z] 1 n_ d_ rfl;obtain⟨v',w',r1,Z,r3,r4⟩:=cE (P:=prog) (w:=w.alloc (.cells #[V z] 2)) B 26 U 2 Y _ 1 8 underlying26 hi Je Jf Jd rfl d_ v _ _ (ownB h I) (some ⟨w.heap.size,0,none⟩) 1 1 [V z] (λe=>by cases e) rfl (λad had k u hu=>by cases had;exact ownsRow.cells Jb (g:=w.heap.size) rfl k u hu) (λu hu=>by simp at hu;subst hu;rfl) o_ d_ (Ft I.size);have J:mA B w' v' (zs++[z]):=by
  unfold mA;rw[l_a,map_append];exact Z
 obtain⟨a,c,rfl⟩:=iI J;exact⟨a,_,c,w',r1,i_,J,(I.tcs).trans (ak.of_grown r3 (λk hk=>hk))⟩
def zS(n:Nat):(madeCells (Value.int .i64 0).cells n).toList=(List.replicate n (0:Int)).map (Value.int .i64):=by
 have h:(Value.int .i64 0).cells=#[V 0]:=rfl;rw[h,map_replicate];apply ext_getElem?;intro j;by_cases hj:j<n
 ·simp[madeCells,Nat.mod_one,hj]
 ·simp[madeCells,Nat.mod_one,hj]
def BE(g:Nat)(a:Option Addr)(len cap:Nat)(w:AT)(hl:len<=1048576)(hL:Lo g a len (S0 g) w.heap.size)(hc:dS g a len cap w):
  Calls prog 48 #[pV g] w λe w'=>∃v zs,e=rW v/\mA w.heap.size w' v zs/\zs.length<=2000/\Dr g a len cap (S0 g) w w':=by
 have Je:S0 g g:=rfl;obtain⟨i2,Xa,Jn,Js,Jl⟩:=info_parts kq;have Jo:=ah hL;have HC:=ah (hc.alloc (.cells #[] 2));have Jk:Hid (∀k,S0 g k->k<w.heap.size):=λk Y=>by have e:k=g:=Y;have:=hL.gl;omega
 clear hc hL;go_in;go_wp2_with fail;refine(aE g a len cap (S0 g) _ _ hl Je HC.o o_).mono ?_;rintro e w1 ⟨n,rfl,hn,Ji⟩;have Ju:=ah (aN (zR w) Ji.tcs Jk);have Jx:Hid (Dr g a len cap (S0 g) w w1):=⟨Ji.cur,((au w _).tcs).trans Ji.tcs⟩;clear Ji HC;go_wp2;go_loopw[3,5] (λov i wr=>∃(k:Nat) (zs:List Int),(k:Int)<=n/\i=V k/\Hid (zs.length=k)/\mA w.heap.size wr ov zs/\Dr g a len cap (S0 g) w wr) (λ_ i _=>n.toNat-(RowKit.intOf i).toNat)
 case atStart=>exact⟨0,[],o_,rfl,rfl,Ju,Jx⟩
 case round=>
  obtain⟨k,zs,Y,rfl,U,Z,hd⟩:=hrel;obtain⟨ao,co,hv⟩:=iI Z;rw[U.o]at hv;subst hv;have J:=ah Z;have h:=ah hd;clear Z hd Ju Jx;by_cases hlt:(k:Int)<n
  ·go_wp2_with fail;refine(nB g a len cap (S0 g) _ hl Je h.o.cur).mono ?_;rintro e w2 ⟨y,rfl,I⟩;obtain⟨va,vn,vc,w3,hr,Jq,Jd,Jf⟩:=pG (B:=w.heap.size) (w:=w2) y 26 (aN J.o I.tcs Jk) (Fw I.tcs.size h.o.tcs.size) (Ft U.o);have HR:=ah hr;have Jp:=ah Jd;have Jm:Hid (Dr g a len cap (S0 g) w w3):=(h.o.trans I).new Jo.o Jf (pF J);clear hr Jd Jf I Jq;go_wp2_with(at_builtin;refine aC rfl _ _ _ rfl _ _ _ _ rfl rfl HR.o ?_)
   go_roundw
   case rel=>exact⟨k+1,zs++[y],o_,by go_num,by have:=U.o;show(zs++[y]).length=k+1;simp;omega,Jp,Jm⟩
   case measure=>exact FW
  ·go_wp2_with fail;refine(dU g a len cap (S0 g) _ _ hl Je h.o.cur o_).mono ?_;rintro e w2 ⟨q,rfl,I⟩;have Jg:=ah (h.o.trans I);have Jh:Hid (mA w.heap.size w2 (.slice ao k co) zs):=aN J.o I.tcs Jk;clear I h J;go_upto_if 20 with fail
   go_cut [3]from 6 to 31 (λv W=>∃va vn vc us,v=.slice va vn vc/\mA w.heap.size W v us/\us.length<=10/\Dr g a len cap (S0 g) w W)
   case first=>
    cases q
    ·go_wp2;go_meet
     case rel=>exact⟨_,_,_,zs,rfl,Jh,Ft U.o,Jg⟩
    ·obtain⟨va,vn,vc,w3,hr,Jq,Jd,Jf⟩:=pG (B:=w.heap.size) (w:=w2) 2147483648 26 Jh.o Jg.o.tcs.size (Ft U.o);have HR:=ah hr;have Jp:=ah Jd;have Jm:Hid (Dr g a len cap (S0 g) w w3):=Jg.o.new Jo.o Jf (pF Jh);clear hr Jd Jf Jq;go_wp2_with(at_builtin;refine aC rfl _ _ _ rfl _ _ _ _ rfl rfl HR.o ?_)
     go_meet
     case rel=>exact⟨_,_,_,zs++[2147483648],rfl,Jp,by have:=U.o;simp;omega,Jm⟩
   case rest=>
    obtain⟨va,vn,vc,us,rfl,Z,Jt,hd⟩:=hcut;have J:=ah Z;have HU:=ah Jt;have h:=ah hd;clear Z Jt hd Jh Jg U;go_wp2_with fail;refine(dU g a len cap (S0 g) _ _ hl Je h.o.cur o_).mono ?_;rintro e w4 ⟨q4,rfl,Jr⟩;have Jj:=ah (h.o.trans Jr);have Jv:Hid (mA w.heap.size w4 (.slice va vn vc) us):=aN J.o Jr.tcs Jk;clear Jr h J;cases q4
    ·go_wp2;go_ret;exact⟨_,us,rfl,Jv,Ft HU.o,Jj⟩
    ·go_wp2_with fail;refine(aE g a len cap (S0 g) _ _ hl Je Jj.o.cur o_).mono ?_;rintro e w5 ⟨y,rfl,hy,Jw⟩;have Jy:=ah (Jj.o.trans Jw);have hM:w.heap.size<=w5.heap.size:=Jy.o.tcs.size;obtain⟨m,hm⟩:∃m:Nat,(m:Int)=1000+y:=⟨(1000+y).toNat,o_⟩;have hw:IntKind.i64.wrap (1000+y)=(m:Int):=by rw[IntKind.wrap_i64];omega
     have Xb:m<=1001:=o_;clear Jw Jj Jv;go_wp2_with(at_make;refine wpList_make_full _ rfl _ _ 26 rfl w.heap.size 2 i2 (V 0) 1 underlying26 Xa Jn Js _ _ _ _ m rfl rfl o_ o_ ?m1 ?m2 ?m3 ?_;rotate_right;intro w8 Jc Ja;have J_:=ah Jc;have Jz:=ah (ak.of_grown (S:=λ_=>False) Ja (λk Y=>by cases Y));clear Jc Ja)
     case m1=>rw[Jl];omega
     case m2=>unfold maxLen;omega
     case m3=>omega
     go_ret;refine⟨_,List.replicate m 0,rfl,?_,by rw[length_replicate];omega,Jy.o.new Jo.o Jz.o (λk Y=>Y.elim)⟩;have:=J_.o;rw[Nat.mul_one,zS]at this;unfold mA;rw[length_replicate];exact this
end
section
variable{w:AT}
def pH{P:Program}(base:Nat)(t J e:GC)(i:TypeInfo)(z:BY)(size bytes:Nat)(Y:P.underlying t=some (.slice e))(hi:P.info? e=some i)(hz:i.zero=some z)
  (Ja:i.size=size) (Z:i.bytes=bytes) (Jh:z.cells.size=size) (Jg:0<size) (b:Nat) (Jd:w.ownsRow base e size (rV b 0 0) 0 [])
  (a:Addr) (m c:Nat) (us:List BY) (hl:us.length=m*size) (hc:∀j u,us[j]? =some u->w.cell? (a.add j)=some u) (h1:∀u∈us,u.oneCell'=true)
  (Ji:1<=m) (hm:m<=10000000) (Je:bytes<=1000) (Jb:base<=w.heap.size):
  ∃cap w',(Builtin.append_ #[t,t] J #[rV b 0 0,.slice (some a) m c]).run P w=.ok (rV w.heap.size m cap) w'/\w'.ownsRow base e size (rV w.heap.size m cap) m us/\Bl w w':=by
 obtain⟨v',w',U,r2,-,-⟩:=cE (P:=P) (w:=w) base t J e i z size bytes Y hi hz Ja Z Jh Jg _ 0 [] Jd (some a) m c us (λe=>by cases e) hl (λad had=>by cases had;exact hc) h1 o_ Je Jb;have Jc:(0+m)*bytes<=140737488355328:=by
  have:(0+m)*bytes<=10000000*1000:=Nat.mul_le_mul o_ Je
  omega
 have I:=run_append_grow (P:=P) (w:=w) t J e i z Y hi hz ⟨b,0,none⟩ 0 0 [] i_ (λj v h=>by simp at h) a m c us (by rw[Ja];exact hl) hc o_ o_ (by rw[Z];exact growslice_fits o_ o_);rw[U]at I;simp only[Result.ok.injEq,Nat.zero_add]at I;obtain⟨rfl,rfl⟩:=I;refine⟨_,_,U,Fc r2,(r_.drew).alloc i_ _⟩
theorem kH{v:Value}{gs:List Gl}(h:cK w v gs)(hp:0<gs.length):∃ad c,v=.slice (some ad) gs.length c/\∀j u,(cU gs)[j]? =some u->w.cell? (ad.add j)=some u:=by
 obtain⟨a,Y,rfl,-,-,h⟩:=h;obtain⟨b,Z,rfl,hc⟩:=h hp;refine⟨⟨b,Z,none⟩,Y,rfl,λj u hu=>?_⟩;have hj:j<gs.length*2:=by rw[<-iY];exact(List.getElem?_eq_some_iff.1 hu).1
 have e:j=j / 2*2+j%2:=o_;have J:j / 2<gs.length:=o_;obtain⟨U,c1⟩:=hc (j / 2) J;have I:=iZ gs (j / 2) (j%2) J o_;rw[<-e,hu]at I;rw[em];have h2:j%2=0∨j%2=1:=o_;rcases h2 with h2|h2
 ·rw[h2]at I e;simp[wI]at I;rw[e,I];exact U
 ·rw[h2]at I e;simp[wI]at I;rw[e,<-Nat.add_assoc,I];exact c1
end
section
variable{g M len cap O R4 N fl gl b c b' c' bb bn bc:Nat}{a:Option Addr}{w W W':AT}{gs:List Gl}{Q:List FV}{R:List SV}
structure PP (g M:Nat) (a:Option Addr) (len cap O R4 N fl gl:Nat) (w W:AT) (b c b' c':Nat) (gs:List Gl) (Q:List FV):Prop where
 box:aK W O [rV b gl c,rV b' fl c']
 res:aK W R4 [nV,nV]
 gr:GR N W (rV b gl c) gs
 fr:F2 (λk=>k<M∨w.heap.size<=k) N W (rV b' fl c') Q
 ln:Q.length=fl/\1<=fl/\fl<=20/\gs.length=gl/\1<=gl/\gl<=20
 gn:∀x∈gs,x.name.size<=100000
 ob:∀x∈Q,1<=x.R.length/\x.R.length<=10000/\x.f.params.length<=20/\∀s∈x.f.body,s.e.length<=3000
 cur:dS g a len cap W
 tcs:ak (S0 g) w W
 ne:O≠b/\O≠b'/\b≠b'
 lo:(g<M/\M<=w.heap.size)/\w.heap.size<=R4/\R4<N/\N<=O/\O<W.heap.size
def PP.past{S:D6}(h:PP g M a len cap O R4 N fl gl w W b c b' c' gs Q)(J:ak S W W')(hc:dS g a len cap W')(I:∀k,S k->(k=g∨w.heap.size<=k)/\k≠O/\k≠R4/\k≠b/\k≠b'):PP g M a len cap O R4 N fl gl w W' b c b' c' gs Q:=by
 obtain⟨Y,Z,l2,l3,U⟩:=h.lo;have Ja:R4<W.heap.size:=o_;refine⟨h.box.tcs U J (λe=>(I _ e).2.1 rfl),h.res.tcs Ja J (λe=>(I _ e).2.2.1 rfl),fI h.gr J (λk hk e=>?_),⟨h.fr.row.past J (λk hk=>(I k hk).1.imp (λe=>by omega) id) (λk hk e=>?_),h.fr.ok⟩,h.ln,h.gn,h.ob,hc,h.tcs.next J (λk hk=>(I k hk).1),h.ne,⟨Y,Z,l2,l3,Ft J.size⟩⟩
 ·simp only[ownBlock,GD]at hk;exact(I _ e).2.2.2.1 hk.symm
 ·simp only[ownBlock,GD]at hk;exact(I _ e).2.2.2.2 hk.symm
def PP.rng(h:PP g M a len cap O R4 N fl gl w W b c b' c' gs Q):(N<=b/\b<W.heap.size)/\(N<=b'/\b'<W.heap.size):=⟨ownsRow.lt h.gr b rfl,h.fr.rng b' rfl⟩
def PP.dr(h:PP g M a len cap O R4 N fl gl w W b c b' c' gs Q)(hd:Dr g a len cap (S0 g) W W'):PP g M a len cap O R4 N fl gl w W' b c b' c' gs Q:=
 h.past hd.tcs hd.cur (λk hk=>by
  have e:k=g:=hk;have:=h.rng
  have:=h.lo
  exact⟨.inl e,o_,o_,o_,o_⟩)
def PP.below(h:PP g M a len cap O R4 N fl gl w W b c b' c' gs Q)(hb:Bl W W'):PP g M a len cap O R4 N fl gl w W' b c b' c' gs Q:=
 h.past (hb.tcs (S:=λ_=>False)) (h.cur.below hb) (λk hk=>hk.elim)
structure QP (g M:Nat) (a:Option Addr) (len cap O R4 N fl gl:Nat) (w W:AT) (b c b' c':Nat) (gs:List Gl) (Q:List FV) (bb bn bc:Nat) (R:List SV):Prop where
 pp:PP g M a len cap O R4 N fl gl w W b c b' c' gs Q
 br:BR (λk=>k<M∨w.heap.size<=k) N W (rV bb bn bc) R
 rl:R.length=bn/\1<=bn/\bn<=10000
 es:∀x∈R,x.s.e.length<=3000
 bne:bb≠O/\bb≠b/\bb≠b'
def QP.dr(h:QP g M a len cap O R4 N fl gl w W b c b' c' gs Q bb bn bc R)(hd:Dr g a len cap (S0 g) W W'):QP g M a len cap O R4 N fl gl w W' b c b' c' gs Q bb bn bc R:=
 ⟨h.pp.dr hd,⟨h.br.row.past hd.tcs (λk hk=>.inl (by have e:k=g:=hk;have:=h.pp.lo;omega)) (λk hk e=>by
  have e:k=g:=e;have:=(h.br.rng k hk).1
  have:=h.pp.lo
  omega),h.br.ok⟩,h.rl,h.es,h.bne⟩
theorem PP.copy(h:PP g M a len cap O R4 N fl gl w W b c b' c' gs Q)(f:Nat)(hf:f<fl)(ty:TypeId):
  ∃ba bo bn bc,W.cell? ⟨b',f*3+2,none⟩=some (.slice (some ⟨ba,bo,none⟩) bn bc)/\(W.alloc (.cells #[] 132)).cell? ⟨b',f*3+2,none⟩=some (.slice (some ⟨ba,bo,none⟩) bn bc)/\∃bb cap' w',(Builtin.append_ #[95,95] ty #[rV W.heap.size 0 0,.slice (some ⟨ba,bo,none⟩) bn bc]).run prog (W.alloc (.cells #[] 132))=.ok (rV bb bn cap') w'/\∃R,QP g M a len cap O R4 N fl gl w w' b c b' c' gs Q bb bn cap' R:=by
 obtain⟨l0,l1,l2,l3,l4⟩:=h.lo;obtain⟨q1,q2,q3,q4,q5,q6⟩:=h.ln;obtain⟨e1,e2,U⟩:=h.ne;obtain⟨⟨s1,s2⟩,s3,s4⟩:=h.rng;obtain⟨i0,hi,Jk,Jm,Jn⟩:=info_parts j5;have Ji:f<Q.length:=o_;have Z:Q[f]∈Q:=g_ Ji;obtain⟨o1,o2,-,o4⟩:=h.ob _ Z;have I:=λW' (hW':ak (λk=>k<M∨w.heap.size<=k) W W')=>h.fr.row.st W' (hW'.mono λk hk=>.inl hk) Q[f] Z;obtain⟨⟨va,vc,ev,-,-,Jc⟩,-⟩:=(I W (ak.refl _ _)).2.1;obtain⟨ba,bo,rfl,-⟩:=Jc o_;have Jg:W.ownsRow N 97 3 (rV b' fl c') fl (cq Q):=by have:=h.fr.row.row;rw[q1]at this;exact this
 have Y:W.cell? ⟨b',f*3+2,none⟩=some Q[f].vb:=by
  rw[World.ownsRow.cellAt Jg (f*3+2) o_,gA Q f 2 Ji o_];rfl
 rw[ev]at Y;have Jj:Bl W (W.alloc (.cells #[] 132)):=au _ _;refine⟨ba,bo,Q[f].R.length,vc,Y,(World.cell?_alloc_past _ b' _ s4).trans Y,?_⟩;have Jp:(W.alloc (.cells #[] 132)).heap.size=W.heap.size+1:=i_;have hn:N<=W.heap.size:=o_;have Je:(W.alloc (.cells #[] 132)).ownsRow N 132 6 (rV W.heap.size 0 0) 0 []:=World.ownsRow_lit W #[] 0 hn d_ rfl;have Jo:∀W',ak (λk=>k<M∨w.heap.size<=k) W W'->∀j u,(db Q[f].R)[j]? =some u->W'.cell? ((⟨ba,bo,none⟩:Addr).add j)=some u:=λW' hW' j u hu=>by
  obtain⟨⟨Jq,Js,J,-,-,Ja⟩,-⟩:=(I W' hW').2.1;obtain⟨Jt,Jr,e,Jl⟩:=Ja o_;rw[ev]at J;simp only[Value.slice.injEq]at J;rw[e]at J;simp only[Option.some.injEq,Addr.mk.injEq]at J;obtain⟨⟨rfl,rfl,-⟩,-,-⟩:=J;rw[em];exact Jl j u hu
 obtain⟨cap',w',r,hr,hb⟩:=pH (P:=prog) N 95 ty 132 i0 _ 6 _ underlying95 hi Jk Jm Jn rfl d_ W.heap.size Je ⟨ba,bo,none⟩ Q[f].R.length vc (db Q[f].R) (j2 _) (Jo _ Jj.tcs) (j4 _ λq hq=>by
  have hp:=(I W (ak.refl _ _)).2.1.2 q hq;exact⟨hp.1.cell1,hp.2.cell1⟩) o1 o_ d_ o_
 have Jh:Bl W w':=Jj.trans (hb.mono o_);refine⟨_,cap',w',r,Q[f].R,h.below Jh,⟨⟨hr,λW' hW'=>?_⟩,λx hx=>?_⟩,⟨rfl,o1,o2⟩,(λx hx=>by
  have U:=(I W (ak.refl _ _)).2.2;exact o4 x.s (by rw[<-U];exact List.mem_map.2 ⟨x,hx,rfl⟩)),⟨o_,o_,o_⟩⟩
 ·exact(I W' ((Jh.tcs (S:=λk=>k<M∨w.heap.size<=k)).next hW' λk hk=>by
   rcases hk with hk|hk
   ·exact .inl hk
   ·simp only[Value.ownBlock,Option.some.injEq]at hk;exact .inl (.inr o_))).2.1.2
 ·have U:=(I W (ak.refl _ _)).2.2;exact(h.fr.ok _ Z).st x.s (by rw[<-U];exact List.mem_map.2 ⟨x,hx,rfl⟩)
theorem BF{W0 Y:World}{fb foff:Nat}{vg vf:Value}{t:Tr}(hB:Below W0.heap.size W0 Y)(og:Y.ownsRow N 63 2 (rV b gl c) gl (cU t.globals))(Jf:Y.ownsRow N 97 3 (rV b' fl c') fl (cq Q))(Jx:N<=O)(Z:Y.heap[O]? =some (.cells #[nV,nV] 34 (0,0)))(J_:N=W0.heap.size)(Xa:R4=w.heap.size+1)(Jy:W0.heap.size=w.heap.size+2)(Jl:Below w.heap.size w W0)(Jn:Lo g a len (S0 g) w.heap.size)(h4:aK W0 R4 [nV,nV])(Jw:dS g a len cap W0)(Je:TD (λk=>k<M) w vg vf t)(hQ:Q.length=t.funcs.length/\Q.map (λq:FV=>q.f)=t.funcs)
  (hM:g<M/\M<=w.heap.size) (Jj:∀W,ak (λk=>k<M) w W->(∀j u,(cq Q)[j]? =some u->W.cell? ⟨fb,foff+j,none⟩=some u)/\Cv Q W) (Jm:1<=gl/\gl<=20) (Jk:1<=fl/\fl<=20) (Ja:gl=t.globals.length) (Jd:fl=t.funcs.length):
  aK Y O [nV,nV]/\∃W1,W1=(Y.setCell ⟨O,0,none⟩ (rV b gl c)).setCell ⟨O,1,none⟩ (rV b' fl c')/\PP g M a len cap O R4 N fl gl w W1 b c b' c' t.globals Q:=by
 have Jb:b≠O/\b'≠O:=by
  obtain⟨-,h|⟨g1,Jr,Jp,U,-,h1,-⟩⟩:=og
  ·simp at h
  obtain⟨-,h|⟨g2,Jt,Js,J,-,h2,-⟩⟩:=Jf
  ·simp at h
  simp only[Value.slice.injEq,Option.some.injEq,Addr.mk.injEq]at U J;obtain⟨⟨rfl,-,-⟩,-,-⟩:=U;obtain⟨⟨rfl,-,-⟩,-,-⟩:=J;refine⟨λe=>?_,λe=>?_⟩
  ·rw[e,Z]at h1;simp at h1
  ·rw[e,Z]at h2;simp at h2
 have Ju:O<Y.heap.size:=(Array.getElem?_eq_some_iff.1 Z).1;have fO:aK Y O [nV,nV]:=by
  intro j u hj;have hz:Y.frozen? ⟨O,j,none⟩=false:=by
   unfold World.frozen?;simp only[Z];simp
  have Jq:Y.cell? ⟨O,j,none⟩=some u:=by
   unfold World.cell?;simp only[Z];match j with
   | 0=>simpa using hj
   | 1=>simpa using hj
   | j+2=>simp at hj
  exact⟨Jq,hz⟩
 obtain⟨W1,Jc⟩:=q_ ((Y.setCell ⟨O,0,none⟩ (rV b gl c)).setCell ⟨O,1,none⟩ (rV b' fl c'));have Jo:PP g M a len cap O R4 N fl gl w W1 b c b' c' t.globals Q:=by
  have I:ak (λk=>k=O) Y W1:=by rw[Jc];exact((ak.refl (λk=>k=O) Y).setCell (p:=⟨O,0,none⟩) rfl _).setCell (p:=⟨O,1,none⟩) rfl _
  have Jz:=Jn.gl;have Jg:Bl w Y:=Jl.trans (hB.mono Jl.size);have hY:W0.heap.size<=Y.heap.size:=hB.size;have Jh:=fI og I (λk hk e=>by simp only[Value.ownBlock,Option.some.injEq]at hk;have e:k=O:=e;exact Jb.1 (hk.trans e));have Ji:=fI Jf I (λk hk e=>by simp only[Value.ownBlock,Option.some.injEq]at hk;have e:k=O:=e;exact Jb.2 (hk.trans e));have Jv:b≠b':=by
   intro e;subst e;obtain⟨-,h|⟨g1,Jr,Jp,U,-,h1,-⟩⟩:=og
   ·simp at h
   obtain⟨-,h|⟨g2,Jt,Js,J,-,h2,-⟩⟩:=Jf
   ·simp at h
   simp only[Value.slice.injEq,Option.some.injEq,Addr.mk.injEq]at U J;obtain⟨⟨rfl,-,-⟩,-,-⟩:=U;obtain⟨⟨rfl,-,-⟩,-,-⟩:=J;rw[h1]at h2;simp at h2
  refine⟨by rw[Jc];exact(fO.set 0 _).set 1 _,(h4.below hB).tcs o_ I o_,by rw[Ja]at Jh;rw[Ja];exact Jh,⟨⟨by rw[hQ.1,<-Jd];exact Ji,λW hW=>?_⟩,λx hx=>(Je.ok x.f (by rw[<-hQ.2];exact List.mem_map.2 ⟨x,hx,rfl⟩)).two⟩,⟨o_,Jk.1,Jk.2,Ja.symm,Jm.1,Jm.2⟩,Je.gn,λx hx=>?_,?_,?_,⟨λe=>Jb.1 e.symm,λe=>Jb.2 e.symm,Jv⟩,⟨hM,o_,o_,Jx,l_ Ju I.size⟩⟩
  ·exact(Jj W ((Jg.tcs (S:=λk=>k<M)).next (I.mono (T:=λk=>w.heap.size<=k) λk hk=>by omega) (λk hk=>.inr hk) |>.next hW (λk hk=>by
    rcases hk with(hk|hk)|hk
    ·exact .inl hk
    ·exact .inr hk
    ·simp only[Value.ownBlock,Option.some.injEq]at hk;have:=(World.ownsRow.lt Ji b' rfl).1
     exact .inr o_))).2
  ·have k:=Je.ok x.f (by rw[<-hQ.2];exact List.mem_map.2 ⟨x,hx,rfl⟩);have e:=((Jj w (ak.refl _ _)).2 x hx).2.2;have k1:=k.bl;have k2:=k.bu;rw[<-e,List.length_map]at k1 k2;exact⟨k1,k2,k.pl,λs hs=>(k.st s hs).1.1⟩
  ·exact(Jw.below hB).new Jn I (λk hk=>by omega)
  ·exact(Jg.tcs (S:=S0 g)).next I (λk hk=>.inr o_)
 exact⟨fO,W1,Jc,Jo⟩
end
def wL{w w':AT}{B size n:Nat}{e:GC}{v:BY}{J:List BY}(h:w.ownsRow B e size v n J)(hk:∀g,v.ownBlock=some g->w'.heap[g]? =w.heap[g]?):w'.ownsRow B e size v n J:=by
 obtain⟨I,h|⟨g,Z,U,rfl,Y,h2,h3⟩⟩:=h
 ·exact⟨I,.inl h⟩
 ·exact⟨I,.inr ⟨g,Z,U,rfl,Y,(hk g rfl).trans h2,h3⟩⟩
theorem zT(g:Nat)(a:Option Addr)(len cap:Nat)(w:World)(hl:len<=1048576)(hL:Lo g a len (S0 g) w.heap.size)(hc:dS g a len cap w):
  Calls prog 76 #[pV g] w λe w'=>∃vg vf,e=rW (.agg #[vg,vf])/\(∃t,TD (λk=>k<w.heap.size) w' vg vf t)/\Dr g a len cap (S0 g) w w':=by
 have Ym:S0 g g:=rfl;have Jk:=ah hL;obtain⟨W1,Do,b0,b1,b2,b3,J,hs⟩:=sU w;have Pv:=ah Do;obtain⟨R0,Os⟩:=q_ w.heap.size;obtain⟨GL,Vm⟩:=q_ (w.heap.size+1);obtain⟨T,hT⟩:=q_ (w.heap.size+2);obtain⟨NB,Ur⟩:=q_ (w.heap.size+3);obtain⟨Vb,Vc,HT,Zm⟩:=h4 Os Vm hT Ur;rw[<-Os]at b0;rw[<-Vm]at b1;rw[<-hT,<-Vm]at b2;rw[<-Ur]at b3;obtain⟨Ep,Ds,Ed,Ji,P_,Uh⟩:=h6 b0 b1 b2 b3 J hs;have Pl:Hid (dS g a len cap W1):=hc.below J;clear Do b0 b1 b2 b3 J hs Os Vm hT Ur hc hL;go_in;go_upto_region 3 with fail;rw[<-Pv.out,<-Zm.out,<-HT.out,<-Vc.out,<-Vb.out];clear Pv;go_wp2_with fail;refine(aE g a len cap (S0 g) _ _ hl Ym Pl.out o_).mono ?_;rintro e w1 ⟨n,rfl,hn,Vr⟩;obtain⟨q,hq⟩:=q_ w1.heap.size;obtain⟨W2,Yg⟩:=q_ (w1.alloc (.cells #[nV,nV,nV,nV,V 0] 174));obtain⟨Dy,Hq⟩:=h2 Yg hq;have h12:ak (S0 g) W1 W2:=by rw[Yg];exact Vr.tcs.alloc _
 have Dc:g<w.heap.size:=Jk.out.gl;have Jw:Hid (T=w.heap.size+2/\GL=w.heap.size+1/\NB=w.heap.size+3/\R0=w.heap.size/\w.heap.size+4<=q/\q<W2.heap.size/\g<w.heap.size):=⟨HT,Vc,Zm,Vb,by rw[hq,<-Uh.out];exact Vr.tcs.size,by rw[hq,Yg];simp,Dc⟩;have V_:=Uh.out;have nT:¬S0 g T:=λe=>by have:T=g:=e;have:=HT.out;omega
 have nG:¬S0 g GL:=λe=>by have:GL=g:=e;have:=Vc.out;omega
 have nN:¬S0 g NB:=λe=>by have:NB=g:=e;have:=Zm.out;omega
 have nR:¬S0 g R0:=λe=>by have:R0=g:=e;have:=Vb.out;omega
 have Oh:Hid (aK W2 R0 [nV,nV]):=Ep.out.tcs (by have:=Vb.out;omega) h12 nR;have Dp:Hid (aK W2 GL mz):=Ds.out.tcs (by have:=Vc.out;omega) h12 nG;have Ek:Hid (aK W2 T [rV GL 4 4,nV]):=Ed.out.tcs (by have:=HT.out;omega) h12 nT;have Pm:Hid (aK W2 NB pE):=Ji.out.tcs (by have:=Zm.out;omega) h12 nN;have Ei:Hid (aK W2 q [nV,nV,nV,nV,V 0]):=by rw[Yg,hq];exact aH w1 _ _ d_
 have Uq:Hid (dS g a len cap W2):=by rw[Yg];exact Vr.cur.alloc _
 have Ud:Hid (Dr g a len cap (S0 g) w W2):=⟨Uq,(P_.out.tcs (S:=S0 g)).trans h12⟩;clear Vr hq Yg h12 V_ nT nG nN nR Ep Ds Ed Ji Pl P_ Uh Dc;go_upto_region 5 with fail;rw[<-Dy.out,<-Hq.out];clear Dy Hq Vb Vc HT Zm;go_wp2;go_loopw[7,8,9,10,11] (λi fp ip np kk wr=>∃j:Nat,(j:Int)<=n/\i=V j/\F6 g a len cap T q GL W2.heap.size W2 wr j) (λi _ _ _ _ _=>n.toNat-(RowKit.intOf i).toNat)
 case atStart=>
  refine⟨0,o_,rfl,Uq,ak.refl _ _,none,0,0,[],Ek,fr_none,rfl,none,0,0,none,0,0,[],[],Ei,λW hW=>⟨⟨none,0,rfl,n_,o_,λh=>absurd h (Nat.lt_irrefl _)⟩,⟨none,0,rfl,λh=>absurd h (Nat.lt_irrefl _)⟩⟩,rfl,rfl,(λx hx=>by cases hx),λx hx=>by cases hx⟩
 case round=>
  obtain⟨j,hj,rfl,Ps⟩:=hrel;rename World=>Wr
  have Ov:=ah Ps;obtain⟨-,Yl,fa,fn,fc,Q,Vz,Yv,Uj,ca,cn,cc,pa,pn,pc,cs,ps,Xi,Vw,Ue,Up,Vn,Vt⟩:=Ps;by_cases hlt:(j:Int)<n
  ·obtain⟨eT,eG,eN,eR,Aw,Bc,eg⟩:=Jw.out;have Ow:∀k,k=GL∨k=NB∨k=R0->¬Sx g T q k:=λk hk e=>by rcases e with e|e|e <;> omega
   have Pr:aK Wr NB pE:=Pm.out.tcs o_ Yl (Ow _ (.inr (.inl rfl)));obtain⟨nm,Bg,Zb⟩:=zP Pr (j:=j) o_;have Gi:(j:Int)<4:=o_;have Ve:=ah Zb;have Bk:W2.heap.size<=Wr.heap.size:=Yl.size;obtain⟨F,hF⟩:=q_ Wr.heap.size;obtain⟨I,hI⟩:=q_ (Wr.heap.size+1);obtain⟨W3,Jg⟩:=q_ ((Wr.alloc (.cells #[sV nm,nV,nV] 97)).alloc (.cells #[.slice ca cn cc,.slice pa pn pc,nV,nV,V 0] 174));obtain⟨Zl,HF,HI⟩:=h3 Jg hF hI;have q0:=(Xi 0 _ rfl).1;have q1:=(Xi 1 _ rfl).1;have Yo:=Xi.below ((Below.refl Wr.heap.size Wr).alloc n_ (.cells #[sV nm,nV,nV] 97));have Ak:=(Yo 0 _ rfl).1;have Be:=(Yo 1 _ rfl).1;have Ys:Bl Wr W3:=by rw[Jg];exact(au _ _).alloc i_ _
   have Yy:W3.heap.size=Wr.heap.size+2:=by rw[Jg];simp
   have Ji:Hid (Bl Wr W3/\W3.heap.size=Wr.heap.size+2):=⟨Ys,Yy⟩;have Av:Hid (aK W3 F [sV nm,nV,nV]):=by
    rw[Jg,hF];exact(aH Wr _ _ i_).below (au _ _)
   have A_:Hid (aK W3 I [.slice ca cn cc,.slice pa pn pc,nV,nV,V 0]):=by
    rw[Jg,hI];have:=aH (Wr.alloc (.cells #[sV nm,nV,nV] 97)) #[.slice ca cn cc,.slice pa pn pc,nV,nV,V 0] 174 i_;simp only[World.size_alloc]at this;exact this
   have Ai:Hid (∀j,W3.frozen? ⟨I,j,none⟩=false):=λj=>by
    rw[Jg,hI];have e:Wr.heap.size+1=(Wr.alloc (.cells #[sV nm,nV,nV] 97)).heap.size:=i_;rw[e];simp
   have On:Hid (dS g a len cap W3):=Ov.out.cur.below Ys;obtain⟨Ub,Jj⟩:=h2 Vz Yv;have Yq:Hid (Q.length=j/\cs.length=j/\ps.length=j):=⟨Uj,Ue,Up⟩;obtain⟨Gb,Us⟩:=h2 Xi Vw;have Oo:Hid ((∀x∈ps,0<=x/\x<=6)/\∀x∈cs,x.size<=100000):=⟨Vn,Vt⟩;obtain⟨Vi,Af⟩:=h2 Yl Ow;clear Yl Vz Yv Uj Xi Vw Ue Up Vn Vt Ow Pr Zb hF hI Jg Yo Ys Yy eT eG eN eR Aw Bc eg;go_upto_region 10 with fail;rw[<-Zl.out,<-HI.out,<-HF.out];clear q0 q1 Ak Be Zl Bg;go_wp2_with fail;refine(aE g a len cap (S0 g) _ _ hl Ym On.out o_).mono ?_;rintro e w4 ⟨x4,rfl,Bd,Yu⟩;have Ui:=ah Yu;clear Yu;go_wp2_with fail;refine(dU g a len cap (S0 g) _ _ hl Ym Ui.out.cur o_).mono ?_;rintro e w5 ⟨b5,rfl,Pj⟩;have Un:Hid (Dr g a len cap (S0 g) W3 w5):=Ui.out.trans Pj;clear Pj Ui;go_upto_if 42 with fail
   go_cut [10]from 24 to 99 (λnpv W=>∃np:Nat,npv=V np/\np<=6/\W=w5)
   case first=>
    cases b5
    ·go_wp2;go_meet
     case rel=>exact⟨x4.toNat,by rw[show((x4.toNat:Nat):Int)=x4 by omega],o_,rfl⟩
    ·go_wp2;go_meet
     case rel=>exact⟨6,rfl,o_,rfl⟩
   case rest=>
    obtain⟨np,rfl,Gn,Ef⟩:=hcut;rw[Ef];clear Ef;have Yx:F<W3.heap.size/\g<F/\W3.heap.size=F+2:=by have:=Ji.out.2;have:=HF.out;have h7:=Jw.out;omega
    have nF:¬S0 g F:=λe=>by have:F=g:=e;omega
    have Ad:Hid (Lo g a len (S0 g) W3.heap.size):=Jk.out.mono (by have:=Ji.out.2;have:=Ud.out.tcs.size;have:=Vi.out.size;omega);have Dd:Hid (PI g a len cap F nm W3 w5 0):=⟨Un.out.cur,Un.out.tcs.mono (λk hk=>.inl hk),none,0,0,[],Av.out.tcs Yx.1 Un.out.tcs nF,World.ownsRow_nil _ _ _ _,rfl,λx hx=>by cases hx⟩;clear nF;go_wp2;go_loopw[11] (λkv wx=>∃k:Nat,k<=np/\kv=V k/\PI g a len cap F nm W3 wx k) (λkv _=>np-(RowKit.intOf kv).toNat)
    case atStart=>exact⟨0,y_,rfl,Dd⟩
    case round=>
     obtain⟨k,hk,rfl,Yw⟩:=hrel;by_cases hkn:k<np
     ·obtain⟨px,pm,py,Em⟩:∃px pm py,wr.cell? ⟨F,1,none⟩=some (.slice px pm py):=by obtain⟨-,-,x,y,z,qs,hf,-⟩:=Yw;exact⟨x,y,z,(hf 1 _ rfl).1⟩
      have Gh:(k:Int)<(np:Int):=o_;have Bh:F<wr.heap.size:=l_ Yx.1 Yw.tcs.size;have Gj:(wr.alloc (.cells #[sV ⟨#[112]⟩,sV ⟨#[113]⟩] 9)).cell? ⟨F,1,none⟩=some (.slice px pm py):=(World.cell?_alloc_past _ F 1 Bh).trans Em;have V_:(tx (Lib.decDigits k)).size<=50:=by
       rw[oQ];have:=oZ k k n_;omega
      have Or:Hid (∀W:World,Calls prog 115 #[V k] W λe w'=>e=rW (sV (tx (Lib.decDigits k)))/\Bl W w'):=λW=>qp k k n_ o_ W;generalize tx (Lib.decDigits k)=A at V_ Or;have Am:((A.size:Nat):Int)<=50:=o_
      have Dm:=sX Yw ⟨Yx.2.1,Yx.1⟩ (Jk.out.mono (by have:=Jw.out;have:=HF.out;omega)) o_ A o_ px pm py Em (.cells #[sV ⟨#[112]⟩,sV ⟨#[113]⟩] 9);have Xy:=ah Dm;have Dj:Hid (Calls prog 114 #[pV g,rV wr.heap.size 2 2] ((wr.alloc (.cells #[sV ⟨#[112]⟩,sV ⟨#[113]⟩] 9)).drew) λe w'=>∃s,s∈[⟨#[112]⟩,⟨#[113]⟩]/\e=rW (sV s)/\Dr g a len cap (S0 g) ((wr.alloc (.cells #[sV ⟨#[112]⟩,sV ⟨#[113]⟩] 9)).drew) w'):=eP g a len cap (S0 g) [⟨#[112]⟩,⟨#[113]⟩] _ (wr.drew.alloc (.cells #[sV ⟨#[112]⟩,sV ⟨#[113]⟩] 9)) hl Ym (Yw.cur.below ((r_.drew).alloc n_ _)) (jj (w:=wr.drew) _ _ 2 rfl rfl d_ (λb J=>by have e:b=g:=J;have:wr.drew.heap.size=wr.heap.size:=rfl;omega)) d_;clear Dm V_ Yw Dd;go_upto_region 16 with fail;go_region_law
       (first
       | (go_simp;(with_reducible refine Calls.mono Dj.out ?_);intro x w6 hx;obtain⟨s,Uf,Zu,Dx⟩:=hx;subst Zu;have Pn:s.size<=1:=(by simp at Uf;rcases Uf with rfl|rfl <;> decide);have Bj:((s.size:Nat):Int)<=1:=o_;have z6:=(Xy.out w6 s w6 Pn Dx r_);obtain⟨-,-,-,-,-,⟨z6,-,-⟩,-⟩:=z6;clear Uf)
       | (go_simp;(with_reducible refine Calls.mono (Or.out _) ?_);intro x w7 hx;obtain⟨Zu,Ey⟩:=hx;subst Zu;have Gk:¬9223372036854775807<s.size+A.size:=o_;obtain⟨va,vn,vc,w8,r8,⟨-,z7,Gd⟩,y8,f8,Eu⟩:=Xy.out w6 s w7 Pn Dx Ey;clear Ey)
       | (refine cJ rfl _ _ _ rfl _ _ _ _ rfl rfl r8 ?_))
      all_goals (
       have Um:=ah Eu;clear Eu r8 y8 f8 z7 Gd z6 Xy Dj Or;go_wp2;go_roundw
       case rel=>exact⟨k+1,o_,by go_num,Um⟩
       case measure=>simp[RowKit.intOf];omega)
     ·obtain rfl:k=np:=by omega
      obtain⟨Db,Vv,px,pm,py,qs,Pa,Uc,As,Om⟩:=Yw;have hQ:=Yq.out;have Jr:=Jw.out;have Yr:=HF.out;have Yt:=HI.out;have Ax:j<=3:=o_;have Xt:∀b,(Value.slice fa fn fc).ownBlock=some b->q<b/\b<Wr.heap.size:=λb J=>⟨by have:=(Jj.out.rng b J).1;omega,(Jj.out.rng b J).2⟩;obtain⟨Ya,Ux⟩:=BB (T:=T) (q:=q) Us.out ⟨o_,o_⟩ Oo.out Ji.out.1 Yr Yt Ji.out.2 A_.out Ai.out Db Vv Uc o_ Om ⟨o_,o_,o_,o_⟩ (Jk.out.mono o_) o_ Xt;have y1:=(Pa 1 _ rfl).1;have i2:=(Ux 2 _ rfl).1;have Aa:=(Ux 2 _ rfl).2;obtain⟨W10,Jt⟩:=q_ (wr.setCell ⟨I,2,none⟩ (.slice px pm py));have Zi:=ah Jt;rw[<-Jt]at Ya;have D_:F<wr.heap.size:=l_ Yx.1 Vv.size;have Zj:ak (λb=>b=I) wr W10:=by rw[Jt];exact(ak.refl (λb=>b=I) wr).setCell (p:=⟨I,2,none⟩) rfl _
      have Yh:=ah Ya;have Vg:Hid (aK W10 F [sV nm,.slice px pm py,nV]):=Pa.tcs D_ Zj o_;have Yn:Hid (ak (λb=>b=g∨b=F∨b=I) W3 W10):=(Vv.mono λb J=>J.imp id .inl).trans (Zj.mono λb J=>.inr (.inr J));have Pq:Hid (∀(S:Nat->Prop) W,ak S W10 W->(∀b,S b->b<W3.heap.size∨W10.heap.size<=b)->a_ W (.slice px pm py) qs):=λS W hW hS=>fV (wL Uc (λb J=>by
       obtain⟨h1,h2⟩:=World.ownsRow.lt Uc b J;have h10:=Zj.size;rw[hW.block b o_ (λs=>by have:=hS b s;have Gc:W10.heap.size=wr.heap.size:=(by rw[Jt];simp);omega),Zj.block b h2 o_]))
      have B_:Hid (qs.length<=6/\∀x∈qs,x.size<=100000):=⟨o_,Om⟩;clear Jt Ya Db Vv Pa Uc As Om Zj D_ Ux Yr Yt Xt hQ Jr;go_upto_region 18 with fail;rw[<-Zi.out];clear y1 i2 Aa Zi;go_wp2_with fail;refine(aE g a len cap (S0 g) _ _ hl Ym Yh.out.cur o_).mono ?_;rintro e Jx ⟨Pz,rfl,Au,Yf⟩;have Vf:=ah (Yh.out.dr Yf);obtain⟨Y,Za⟩:∃Y:Nat,1+Pz=Y:=⟨(1+Pz).toNat,o_⟩;have Pe:1<=Y/\Y<=4:=o_;have Uo:=ah Za;have Jc:oh 2=31:=rfl;have Jv:Hid (ak (S0 g) W10 Jx):=Yf.tcs;clear Yf Za;go_wp2_with fail;refine(gG g a len cap I 2 o_ (qY g a len cap I hl 2 o_) Y o_ _ _ Uo.out rfl (S5 g T q F I (.slice fa fn fc)) _ 10 Jx Vf.out (by rw[Jc];omega)).mono ?_;rintro e w12 ⟨vb,rfl,Rb,Yj,J_,Ox,Yd,Xz⟩;rw[Jc]at J_ Yd;obtain⟨ba,bn,bc,rfl⟩:∃x y z,vb=.slice x y z:=by obtain⟨x,y,e⟩:=J_.shape;exact⟨x,_,y,e⟩
      have Jr:=Jw.out;have Yr:=HF.out;have Yt:=HI.out;have Yk:=Ji.out;have Jf:ak (Sq g I) W10 w12:=(Jv.out.mono jb).trans Xz;have Oe:W3.heap.size<=W10.heap.size:=Yn.out.size;have Xd:aK w12 F [sV nm,.slice px pm py,nV]:=Vg.out.tcs o_ Jf (λe=>by rcases e with e|e <;> omega);have z2:=(Xd 2 _ rfl).1;have Bm:=(Xd 2 _ rfl).2;obtain⟨W13,Jp⟩:=q_ (w12.setCell ⟨F,2,none⟩ (.slice ba bn bc));have Zn:=ah Jp;have tF:ak (λb=>b=F) w12 W13:=by rw[Jp];exact(ak.refl (λb=>b=F) w12).setCell (p:=⟨F,2,none⟩) rfl _
      have Ok:W10.heap.size<=Jx.heap.size:=Jv.out.size;have X_:Hid (aK W13 F [sV nm,.slice px pm py,.slice ba bn bc]):=by rw[Jp];exact Xd.set 2 _
      have Zw:Hid (SR Jx.heap.size W13 (.slice ba bn bc) Rb (Y*31)):=J_.tcs tF (λb J=>by omega);have Jb:Hid (GS g a len cap I (Sv (S5 g T q F I (.slice fa fn fc)) (.slice ba bn bc)) W13 Yj (10+Y*31)):=by rw[Jp];exact Yd.side (.inl (.inr (.inr (.inr (.inl rfl))))) o_ o_
      have Vl:Hid (ak (λb=>b=g∨b=F∨b=I) W3 W13):=(Yn.out.trans (Jf.mono λb J=>by rcases J with h|h;exact .inl h;exact .inr (.inr h))).trans (tF.mono λb J=>.inr (.inl J));have Vk:Jx.heap.size<=W13.heap.size:=by have:=Xz.size;have:=tF.size;omega
      have Xm:Hid (∀(S:Nat->Prop) W,ak S W13 W->(∀b,S b->b<W3.heap.size∨Jx.heap.size<=b)->a_ W (.slice px pm py) qs):=λS W hW hS=>Pq.out (λb=>S b∨b=g∨b=I∨b=F) W ((((Jf.mono (T:=λb=>S b∨b=g∨b=I∨b=F) λb J=>by rcases J with h|h;exact .inr (.inl h);exact .inr (.inr (.inl h)))).trans (tF.mono λb J=>.inr (.inr (.inr J)))).trans (hW.mono λb J=>.inl J)) (λb J=>by
       rcases J with h|h|h|h
       ·have:=hS b h;omega
       ·omega
       ·omega
       ·omega)
      have Bz:W3.heap.size<=Jx.heap.size:=o_;have Pf:=ah (wJ (g:=g) (a:=a) (len:=len) (cap:=cap) X_.out Zw.out ⟨o_,Vk⟩ Yx.2.1 (Jk.out.mono o_) o_);have Pd:Hid (Calls prog 117 #[pV g,.agg #[Yj.vc,Yj.vp,Yj.vs,Yj.vl,V Yj.m]] W13.drew λe w'=>∃u ns,e=rW u/\aV W13.heap.size w' u ns/\bV ns 400/\Dr g a len cap (S0 g) W13.drew w'):=dL g a len cap (S0 g) Yj (10+Y*31) W13.drew hl Jb.out.lo0 (Jb.out.below r_.drew).cur (Jb.out.below r_.drew).ok0 o_;have c0:=Jb.out.box.c0;have c1:=Jb.out.box.c1;have c2:=Jb.out.box.c2;have c3:=Jb.out.box.c3;have c4:=Jb.out.box.c4;have f2:=(X_.out 2 _ rfl).1;clear J_ Ox Yd Xz Jf Xd Jp tF Jr Yr Yt Yk Oe Ok Pq Vg Yn Yh Vf Jv;go_upto_region 19 with fail;rw[<-Zn.out];clear z2 Bm Zn;go_cut [7]from 24 to 99 (λiv W=>iv=V j/\F7 g a len cap F Jx.heap.size (Y*31) Rb.length nm (.slice px pm py) W13 W)
      case first=>
       go_region_law
        (first
        | (go_simp;(with_reducible refine Calls.mono Pd.out ?_);intro x Ga hx;obtain⟨Ab,ns,Zu,Yb,Zc,Zk⟩:=hx;subst Zu;obtain⟨ua,un,uc,rfl⟩:∃x y z,Ab=.slice x y z:=(by obtain⟨x,y,e,-⟩:=aI Yb;exact⟨x,_,y,e⟩);obtain⟨va,vn,vc,An,Er,⟨k2,At⟩,Bo,Bn,⟨R',Z_,Xh⟩,Xp,Xg,Xn⟩:=Pf.out Ga ua un uc ns Yb Zc Zk;have Bs:Hid (F7 g a len cap F Jx.heap.size (Y*31) Rb.length nm (.slice px pm py) W13 (An.setCell ⟨F,2,none⟩ (.slice va vn vc))):=⟨va,vn,vc,R',Xp,Z_,Xh,Xg,Xn⟩;clear Yb Zc Zk Z_ Xh Xp Xg Xn)
        | (refine cJ rfl _ _ _ rfl _ _ _ _ rfl rfl Er ?_))
       all_goals (
        clear Er k2 At Bo Bn Pf Pd;go_wp2;go_meet
        case rel=>exact⟨rfl,Bs⟩)
      case rest=>
       obtain⟨rfl,Bv⟩:=hcut;clear c0 c1 c2 c3 c4 f2 Pf Pd;obtain⟨va,vn,vc,R',Jq,Zr,Ay,Xf,Xv⟩:=Bv;have Jr:=Jw.out;have Yr:=HF.out;have Yt:=HI.out;have Yk:=Ji.out;have Xx:∀b,(Value.slice fa fn fc).ownBlock=some b->q<b/\b<F:=λb J=>⟨by have:=(Jj.out.rng b J).1;omega,by have:=(Jj.out.rng b J).2;omega⟩;have Xb:ak (λb=>b=g∨b=F∨b=I) W3 wc:=Vl.out.next Xv (λb J=>by
        rcases J with h|h|h
        ·exact .inl (.inl h)
        ·exact .inl (.inr (.inl h))
        ·exact .inr o_)
       have Je:ak (S0 g) Wr wc:=(Ji.out.1.tcs (S:=S0 g)).next Xb (λb J=>by
        rcases J with h|h|h
        ·exact .inl h
        ·exact .inr o_
        ·exact .inr o_)
       have Ju:aK wc T [rV GL 4 4,.slice fa fn fc]:=Ub.out.tcs o_ Je (λe=>by have:T=g:=e;omega);have Xj:aK wc q [.slice ca cn cc,.slice pa pn pc,nV,nV,V 0]:=Gb.out.tcs o_ Je (λe=>by have:q=g:=e;omega);have Xk:=Jj.out.tcs (Je.mono (T:=λk=>k<W2.heap.size) λk hk=>by have:k=g:=hk;omega) (λk hk=>hk);have Xr:∀W,ak (λb=>b<W3.heap.size) wc W->a_ W (.slice px pm py) qs:=λW hW=>Xm.out (λb=>b<W3.heap.size∨Jx.heap.size<=b) W ((Xv.mono λb J=>by
        rcases J with h|h|h
        ·exact .inl o_
        ·exact .inl o_
        ·exact .inr h).trans (hW.mono λb J=>.inl J)) (λb J=>J)
       obtain⟨na,nn,nc,Oa,Dt,⟨t1,Al⟩,Yi,Yc,⟨Q',Jm,Bq⟩,Js,Zq,Jh⟩:=oz (g:=g) (a:=a) (len:=len) (cap:=cap) Ju Jq Xk (by have:=Yq.out;omega) Xf ⟨o_,o_,by have:=Je.size;omega,o_,by have:=Xb.size;omega⟩ (Jk.out.mono o_) Xr o_ B_.out Ve.out Zr ⟨o_,o_⟩ o_ (λb J=>by have:=(Xx b J).2;omega);have Jo:aK (Oa.setCell ⟨T,1,none⟩ (.slice na nn nc)) q [.slice ca cn cc,.slice pa pn pc,nV,nV,V 0]:=Xj.tcs (by have:=Je.size;omega) Jh (λe=>by
        rcases e with e|e
        ·omega
        ·have:=(Xx q e).1;omega)
       have Xc:ak (Sv (Sx g T q) (.slice fa fn fc)) Wr (Oa.setCell ⟨T,1,none⟩ (.slice na nn nc)):=(Je.mono λb J=>.inl (.inl J)).trans (Jh.mono λb J=>by
        rcases J with h|h
        ·exact .inl (.inr (.inl h))
        ·exact .inr h)
       have Jn:=Us.out _ Xc;have Ao:=(Ju 1 _ rfl).1;have Aj:=(Jq 0 _ rfl).1;have Bu:=(Jq 1 _ rfl).1;have Ae:=(Jq 2 _ rfl).1;obtain⟨U,Xw⟩:=q_ (Oa.setCell ⟨T,1,none⟩ (.slice na nn nc));have Yz:=ah Xw;rw[<-Xw]at Yi Yc Jm Js Jh Jo Jn Xc;have Zz:=ah Dt;have Xs:F<U.heap.size:=by have:=Jh.size;have:=Xb.size;omega
       obtain⟨Uk,Xl,Vh,Xo,Jl,Zy⟩:=h6 Yi Jm Js Jo Jn Xc;have Vj:Hid (ak (Sx g T q) W2 U):=(Vi.out.trans (Je.mono λb J=>.inl J)).next Jh (λb J=>by
        rcases J with h|h
        ·exact .inl (.inr (.inl h))
        ·exact .inr (by have:=(Jj.out.rng b h).1;omega))
       have Ag:Hid (Q'.length=j+1):=by show _=_;have:=Yq.out;omega
       have Ap:=ah (Yc 0 _ rfl).1;have Zg:q<U.heap.size:=o_;clear Jq Zr Ay Xf Xv Xb Je Ju Xj Xk Xr Dt Yi Yc Jm Js Zq Jh Jo Xc Jn Xw Xx Jr Yr Yt Yk Bq Jb X_ Zw Vl Xm;go_upto_region 21 with(at_builtin;refine aC rfl _ _ _ rfl _ _ _ _ rfl rfl Zz.out ?_);rw[<-Yz.out];clear Ao Aj Bu Ae t1 Al Yz Zz;go_cut [7]from 24 to 99 (λiv W=>iv=V j/\EH q U (.slice pa pn pc) (cs++[nm]) W)
       case first=>
        obtain⟨PA,PB,PC⟩:=h3 (De U _ _ Jl.out.1) (Df U _ _ nm Jl.out.1) (Dh U _ _ nm Jl.out.1);have e0:=(Xo.out 0 _ rfl).1;have e1:=Ap.out;have eA:∀o,(U.alloc o).cell? ⟨q,0,none⟩=some (.slice ca cn cc):=λo=>(World.cell?_alloc_past o q 0 Zg).trans e0;have eB:∀o,(U.alloc o).cell? ⟨F,0,none⟩=some (sV nm):=λo=>(World.cell?_alloc_past o F 0 Xs).trans e1;have Gm:q<U.heap.size+1:=o_
        have eC:∀o o',((U.alloc o).alloc o').cell? ⟨q,0,none⟩=some (.slice ca cn cc):=λo o'=>(World.cell?_alloc_past o' q 0 (by simp;omega)).trans (eA o);have Go:cs.length<=10:=by have:=Yq.out;omega
        have Ug:Hid (∀w2 v2,Bl U w2->w2.ownsRow U.heap.size 9 1 v2 (cs++[nm]).length ((cs++[nm]).map Value.string)->_):=λw2 v2 h1 h2=>BC (cs:=cs++[nm]) Xo.out Zg h1 h2;go_region_law
         (first
         | (refine bH (by rfl) _ _ (by rfl) U.heap.size (.slice (some ⟨U.heap.size,0,none⟩) 0 0) [] (by rfl) PA.out.1 (.slice ca cn cc) cs (by rfl) PA.out.2.1 (by simp;omega) PA.out.2.2.size ?_;intro v1 w1 Xq Ye Ba;have Jy:Bl U w1:=gW PA.out.2.2 PA.out.1 Ye;have yF:=(Jy.cell (p:=⟨F,0,none⟩) Xs).trans e1)
         | (refine bH (by rfl) _ _ (by rfl) U.heap.size (.slice (some ⟨U.heap.size,0,none⟩) 0 0) [] (by rfl) PB.out.1 (.slice ca cn cc) cs (by rfl) PB.out.2.1 (by simp;omega) PB.out.2.2.1.size ?_;intro v1 w1 Xq Ye Ba;have Jy:Bl U w1:=gW PB.out.2.2.1 PB.out.1 Ye;have Az:w1.cell? ⟨U.heap.size+1,0,none⟩=some (.string nm):=(c_ (a:=⟨U.heap.size+1,0,none⟩) (Ye.block _ i_ (by simp[Value.ownBlock]))).trans PB.out.2.2.2)
         | (refine bH (by rfl) _ _ (by rfl) U.heap.size (.slice (some ⟨U.heap.size+1,0,none⟩) 0 0) [] (by rfl) PC.out.1 (.slice ca cn cc) cs (by rfl) PC.out.2.1 (by simp;omega) PC.out.2.2.1.size ?_;intro v1 w1 Xq Ye Ba;have Jy:Bl U w1:=gW PC.out.2.2.1 PC.out.1 Ye;have Ah:w1.cell? ⟨U.heap.size,0,none⟩=some (.string nm):=(c_ (a:=⟨U.heap.size,0,none⟩) (Ye.block _ (by simp;omega) (by simp[Value.ownBlock]))).trans PC.out.2.2.2)
         | (refine bH (by rfl) _ _ (by rfl) U.heap.size v1 cs (by rfl) (dI.below Xq (au _ _)) (.slice (some ⟨w1.heap.size,0,none⟩) 1 1) [nm] (by rfl) (sC w1 nm 9) (by simp;omega) (t_ Jy.size i_) ?_;intro v2 w2 Va Zp Ee;obtain⟨Z,xn,xc,rfl,⟨zq,Dq⟩,Vs⟩:=Ug.out w2 v2 (gW (Jy.alloc Jy.size _) (dI.below Xq (au _ _)) Zp) Va)
         | (refine bH (by rfl) _ _ (by rfl) U.heap.size v1 cs (by rfl) Xq (.slice (some ⟨U.heap.size+1,0,none⟩) 1 1) [nm] (by rfl) (fK Az) (by simp;omega) Jy.size ?_;intro v2 w2 Va Zp Ee;obtain⟨Z,xn,xc,rfl,⟨zq,Dq⟩,Vs⟩:=Ug.out w2 v2 (gW Jy Xq Zp) Va)
         | (refine bH (by rfl) _ _ (by rfl) U.heap.size v1 cs (by rfl) Xq (.slice (some ⟨U.heap.size,0,none⟩) 1 1) [nm] (by rfl) (fK Ah) (by simp;omega) Jy.size ?_;intro v2 w2 Va Zp Ee;obtain⟨Z,xn,xc,rfl,⟨zq,Dq⟩,Vs⟩:=Ug.out w2 v2 (gW Jy Xq Zp) Va))
        all_goals (
         have Bx:=ah Vs;clear Vs;go_wp2;go_meet
         case rel=>exact⟨rfl,Bx⟩)
       case rest=>
        obtain⟨rfl,Z,xn,xc,Jz,Zs,Zd⟩:=hcut;have Jr:=Jw.out;have Zx:Ints wc (.slice pa pn pc) ps:=(Us.out wc (Zy.out.trans (Zd.mono λb J=>.inl (.inr (.inr J))))).2;obtain⟨Gg,Gl,ya,yn,yc,Of,Ex,Ea,oi,bi⟩:=Dz wc (.slice pa pn pc) ps (k:Int) Zx (by have:=Yq.out;omega) 26;have y1:=(Jz 1 _ rfl).1;have Gf:=((Jz.below ((Below.refl wc.heap.size wc).alloc n_ (.cells #[] 2))) 1 _ rfl).1;have Vu:=Jz.below bi;have z1:=(Vu 1 _ rfl).1;have Ge:=(Vu 1 _ rfl).2;obtain⟨W22,Xa⟩:=q_ (Of.setCell ⟨q,1,none⟩ (.slice ya yn yc));have Uy:=ah Xa;have tS:ak (λb=>b=q) Of W22:=by rw[Xa];exact(ak.refl (λb=>b=q) Of).setCell (p:=⟨q,1,none⟩) rfl _
        have Jd:ak (λb=>b=q) U W22:=(Zd.of_below bi).trans tS;have Vd:aK W22 q [.slice Z xn xc,.slice ya yn yc,nV,nV,V 0]:=by rw[Xa];exact Vu.set 1 _
        have Ob:∀b,Sv (Sx g T q) (.slice na nn nc) b->b<U.heap.size:=λb J=>by
         rcases J with(h|h|h)|h
         ·omega
         ·omega
         ·omega
         ·exact(Xl.out.rng b h).2
        have By:Hid (F6 g a len cap T q GL W2.heap.size W2 W22 (j+1)):=by
         refine⟨Vh.out.keep Jd o_ (λb off x y e=>by have:=(Jk.out.by8 b off x y).1;omega),Vj.out.trans (Jd.mono λb J=>.inr (.inr J)),na,nn,nc,Q',Uk.out.tcs o_ Jd o_,Xl.out.tcs (Jd.mono (T:=λb=>b<W2.heap.size) λb J=>by omega) (λb J=>J),Ag,Z,xn,xc,ya,yn,yc,cs++[nm],ps++[(k:Int)],Vd,λW hW=>⟨?_,?_⟩,?_,?_,?_,?_⟩
         ·have h1:=aN Zs ((bi.tcs (S:=λb=>b<U.heap.size)).trans (tS.mono λb J=>by omega)) (λb J=>J);exact fV (aN h1 hW Ob)
         ·have h2:=aN oi (tS.mono (T:=λb=>b<wc.heap.size) λb J=>by have:=Zd.size;omega) (λb J=>J);exact qw (aN h2 hW (λb J=>l_ (Ob b J) Zd.size))
         ·have:=Yq.out;simp;omega
         ·have:=Yq.out;simp;omega
         ·intro x hx;rcases List.mem_append.1 hx with hx|hx
          ·exact Oo.out.1 x hx
          ·simp only[List.mem_singleton]at hx;subst hx;omega
         ·intro x hx;rcases List.mem_append.1 hx with hx|hx
          ·exact Oo.out.2 x hx
          ·simp only[List.mem_singleton]at hx;subst hx;exact Ve
        obtain⟨Pb,Ut⟩:=h2 Ex Ea;clear Jz Zs Zd Jr Zx oi bi Vu Xa tS Jd Vd Ob Ex Ea;go_wp2_with(at_builtin;first
         | refine aC rfl (.tmp 92) (.tmp 94) _ rfl _ _ _ _ rfl rfl Pb.out ?_
         | refine aC rfl (.tmp 95) (.tmp 97) _ rfl _ _ _ _ rfl rfl Ut.out ?_)
        rw[<-Uy.out];go_roundw
        case rel=>exact⟨j+1,o_,by go_num,By⟩
        case measure=>simp[RowKit.intOf];omega
  ·have Jr:=Jw.out;have Bk:W2.heap.size<=Wr.heap.size:=Yl.size;have Ax:j<=3:=o_
   have Xt:∀b,(Value.slice fa fn fc).ownBlock=some b->q<b/\b<Wr.heap.size:=λb J=>⟨by have:=(Yv.rng b J).1;omega,(Yv.rng b J).2⟩;have Ya:=BD (a:=a) (len:=len) (cap:=cap) Vw ⟨o_,o_⟩ ⟨Vn,Vt⟩ Ov.out.cur ⟨o_,o_,o_,o_⟩ (Jk.out.mono o_) o_ Xt;obtain⟨I,hI⟩:=q_ Wr.heap.size;obtain⟨W3,Jg⟩:=q_ (Wr.alloc (.cells #[.slice ca cn cc,.slice pa pn pc,nV,nV,V 0] 174));obtain⟨HI,Zl⟩:=h2 hI Jg;rw[<-Jg,<-hI]at Ya;have U_:=ah Ya;have Ys:Bl Wr W3:=by rw[Jg];exact r_.alloc n_ _
   have Yy:W3.heap.size=Wr.heap.size+1:=by rw[Jg];simp
   have Ji:Hid (Bl Wr W3/\W3.heap.size=Wr.heap.size+1):=⟨Ys,Yy⟩;have q0:=(Xi 0 _ rfl).1;have q1:=(Xi 1 _ rfl).1;obtain⟨Ub,Jj,Vi⟩:=h3 Vz Yv Yl;have E_:Hid (Q.length<=3):=by show _<=_;omega
   clear Jr Xt Ya hI Jg Ys Yy Vz Yv Yl Uj Xi Vw Ue Up Vn Vt;go_upto_region 24 with fail;rw[<-Zl.out,<-HI.out];clear q0 q1 Zl;go_wp2_with fail;refine(aE g a len cap (S0 g) _ _ hl Ym U_.out.cur o_).mono ?_;rintro e w4 ⟨x4,rfl,Bd,Yu⟩;have Dl:=ah (U_.out.dr Yu);have Eg:Hid (ak (S0 g) W3 w4):=Yu.tcs;obtain⟨Y,Za⟩:∃Y:Nat,2+x4=Y:=⟨(2+x4).toNat,o_⟩;have Pe:2<=Y/\Y<=7:=o_;have Uo:=ah Za;have Jc:oh 3=127:=rfl;clear Yu Za;go_wp2_with fail;refine(gG g a len cap I 3 o_ (qY g a len cap I hl 3 o_) Y o_ _ _ Uo.out rfl (S4 g T q I (.slice fa fn fc)) _ 10 w4 Dl.out (by rw[Jc];omega)).mono ?_;rintro e w5 ⟨vb,rfl,Rb,G5,Vo,Ew,Pg,Oy⟩;rw[Jc]at Vo Pg;obtain⟨ba,bn,bc,rfl⟩:∃x y z,vb=.slice x y z:=by obtain⟨x,y,e⟩:=Vo.shape;exact⟨x,_,y,e⟩
   obtain⟨F,hF⟩:=q_ w5.heap.size;obtain⟨W6,Zf⟩:=q_ (w5.alloc (.cells #[sV ⟨#[109,97,105,110]⟩,nV,.slice ba bn bc] 97));obtain⟨HF,En⟩:=h2 hF Zf;have Vq:Bl w5 W6:=by rw[Zf];exact r_.alloc n_ _
   have Pw:Hid (aK W6 F [sV ⟨#[109,97,105,110]⟩,nV,.slice ba bn bc]):=by rw[Zf,hF];exact aH w5 _ _ i_
   have Dk:F<W6.heap.size:=by rw[Zf,hF];simp
   have Po:=ah Dk;have Pk:Hid (dS g a len cap W6):=Pg.cur.below Vq;have Pi:Hid (SR w4.heap.size W6 (.slice ba bn bc) Rb (Y*127)):=Vo.below Vq;have Dw:ak (Sq g I) W3 W6:=((Eg.out.mono jb).trans Oy).of_below Vq;have Ez:Hid (ak (S0 g) Wr W6):=(Ji.out.1.tcs (S:=S0 g)).next Dw (λb J=>by
    rcases J with h|h
    ·exact .inl h
    ·exact .inr (by have:=HI.out;omega))
   have Eb:=ah Ew;have Dn:Hid (Wr.heap.size<w4.heap.size/\w4.heap.size<=F):=⟨by have:=Eg.out.size;have:=Ji.out.2;omega,by rw[hF];exact Oy.size⟩;clear Vo Ew Pg Oy hF Zf Vq Dw U_ Dl Dk;go_upto_region 25 with fail;rw[<-En.out,<-HF.out];clear En;go_wp2_with fail;refine(dU g a len cap (S0 g) _ _ hl Ym Pk.out o_).mono ?_;rintro e w7 ⟨b7,rfl,Yp⟩;have Jr:=Jw.out;have Ar:=Dn.out;have Zo:ak (S0 g) Wr w7:=Ez.out.trans Yp.tcs;have Aq:Wr.heap.size<=w7.heap.size:=Zo.size;have nS:∀b,w.heap.size<=b->¬S0 g b:=λb J e=>by have:b=g:=e;omega
   have Xe:=Ub.out.tcs o_ Zo (nS T o_);have Xu:=Jj.out.tcs (Zo.mono (T:=λk=>k<W2.heap.size) λk hk=>by have:k=g:=hk;omega) (λk hk=>hk);have Zt:=Pw.out.tcs Po.out Yp.tcs (nS F o_);have Oi:=Pi.out.tcs Yp.tcs (λk hk=>by have:k=g:=hk;omega);have Ol:ak (Sx g T q) W2 w7:=Vi.out.trans (Zo.mono λb J=>.inl J);have t1:=(Xe 1 _ rfl).1;have f0:=(Zt 0 _ rfl).1;have f1:=(Zt 1 _ rfl).1;have f2:=(Zt 2 _ rfl).1;have Bf:=E_.out;have Ac:=Eb.out;have Xt:∀b,(Value.slice fa fn fc).ownBlock=some b->b<w4.heap.size/\b<w4.heap.size/\b≠F:=λb J=>by have:=(Jj.out.rng b J).2;omega
   have Og:F<w7.heap.size:=l_ Po.out Yp.tcs.size;have Du:∀W:World,a_ W nV []:=λW=>⟨none,0,rfl,n_,o_,λh=>absurd h (Nat.lt_irrefl _)⟩;obtain⟨na,nn,nc,wn,rn,⟨n1,Eq⟩,Ev,-,⟨Qn,Zh,Pp⟩,Y_,-,Pt⟩:=oz (g:=g) (a:=a) (len:=len) (cap:=cap) (Bp:=w4.heap.size) (qs:=[]) Xe Zt Xu o_ Yp.cur ⟨o_,o_,o_,o_,Og⟩ (Jk.out.mono o_) (λW _=>Du W) o_ ⟨i_,λx hx=>by cases hx⟩ d_ Oi ⟨o_,o_⟩ o_ Xt;obtain⟨ma,mn,mc,wm,rm,⟨m1,Da⟩,Es,⟨Qm,Zv,Eh⟩,Ze,Eo⟩:=sY (g:=g) (a:=a) (len:=len) (cap:=cap) (nm:=⟨#[109,97,105,110]⟩) Xe Xu o_ Yp.cur ⟨o_,o_,o_⟩ (Jk.out.mono o_) d_ Oi ⟨o_,o_⟩ o_;have Oz:∀(W:World) (Z:Option Addr) (xn xc:Nat) (Qx:List FV),ak (Sx g T q) W2 W->aK W T [rV GL 4 4,.slice Z xn xc]->FR (λk=>k<W2.heap.size) W2.heap.size W (.slice Z xn xc) Qx->Qx.length=Q.length+1->dS g a len cap W->(W.cell? ⟨T,0,none⟩=some (rV GL 4 4)/\W.cell? ⟨T,1,none⟩=some (.slice Z xn xc))/\aK W R0 [nV,nV]/\aK ((W.setCell ⟨R0,0,none⟩ (rV GL 4 4)).setCell ⟨R0,1,none⟩ (.slice Z xn xc)) R0 [rV GL 4 4,.slice Z xn xc]/\(∃t,TD (λk=>k<w.heap.size) ((W.setCell ⟨R0,0,none⟩ (rV GL 4 4)).setCell ⟨R0,1,none⟩ (.slice Z xn xc)) (rV GL 4 4) (.slice Z xn xc) t)/\Dr g a len cap (S0 g) w ((W.setCell ⟨R0,0,none⟩ (rV GL 4 4)).setCell ⟨R0,1,none⟩ (.slice Z xn xc)):=λW Z xn xc Qx ht hT hf hQ hc=>by
    have Yg:=ht.size;have tR:ak (λb=>b=R0) W ((W.setCell ⟨R0,0,none⟩ (rV GL 4 4)).setCell ⟨R0,1,none⟩ (.slice Z xn xc)):=((ak.refl (λb=>b=R0) W).setCell (p:=⟨R0,0,none⟩) rfl _).setCell (p:=⟨R0,1,none⟩) rfl _;have nx:∀b,b=GL∨b=R0->¬Sx g T q b:=λb J e=>by rcases e with e|e|e <;> omega
    have Bi:aK W GL mz:=Dp.out.tcs o_ ht (nx GL (.inl rfl));refine⟨⟨(hT 0 _ rfl).1,(hT 1 _ rfl).1⟩,Oh.out.tcs o_ ht (nx R0 (.inr rfl)),((Oh.out.tcs o_ ht (nx R0 (.inr rfl))).set 0 _).set 1 _,DA (W2:=W) (Bi.tcs o_ tR o_) ⟨o_,by have:=tR.size;omega⟩ (hf.tcs (tR.mono (T:=λb=>b<W2.heap.size) λb J=>by omega) (λb J=>J)) o_ ⟨o_,o_⟩,hc.keep tR o_ (λb off x y e=>by have:=(Jk.out.by8 b off x y).1;omega),?_⟩;refine(Ud.out.tcs.next ht (λb J=>?_)).next tR (λb J=>.inr o_);rcases J with h|h|h
    ·exact .inl h
    ·exact .inr o_
    ·exact .inr o_
   have Di:ak (Sx g T q) W2 (wn.setCell ⟨T,1,none⟩ (.slice na nn nc)):=Ol.next Pt (λb J=>by
    rcases J with h|h
    ·exact .inl (.inr (.inl h))
    ·exact .inr (by have:=(Jj.out.rng b h).1;omega))
   have Dg:ak (Sx g T q) W2 (wm.setCell ⟨T,1,none⟩ (.slice ma mn mc)):=Ol.trans (Eo.mono λb J=>.inr (.inl J));obtain⟨⟨Px,El⟩,Oq,Oc,Ej,Ph⟩:=Oz _ na nn nc Qn Di Ev Zh Pp Y_;obtain⟨⟨Py,Dv⟩,Oj,Ul,Et,Ec⟩:=Oz _ ma mn mc Qm Dg Es Zv Eh Ze;have Vx:=Oq 0 _ rfl;have Vp:=Oq 1 _ rfl;have Ua:=Oj 0 _ rfl;have Vy:=Oj 1 _ rfl;obtain⟨Bt,Bb,Uu,Uz,Ot,Od⟩:=h6 rn rm (And.intro (Oc 0 _ rfl).1 (Oc 1 _ rfl).1) (And.intro (Ul 0 _ rfl).1 (Ul 1 _ rfl).1) (And.intro Ej Ph) (And.intro Et Ec);obtain⟨Wn,Uw⟩:=q_ (wn.setCell ⟨T,1,none⟩ (.slice na nn nc));obtain⟨Wm,Ou⟩:=q_ (wm.setCell ⟨T,1,none⟩ (.slice ma mn mc));obtain⟨Bw,Br⟩:=h2 Uw Ou;rw[<-Uw]at Px El Vx Vp Ot Uu;rw[<-Ou]at Py Dv Ua Vy Od Uz;have Pu:(w7.alloc (.cells #[sV ⟨#[109,97,105,110]⟩,nV,.slice ba bn bc] 97)).cell? ⟨T,1,none⟩=some (.slice fa fn fc):=(World.cell?_alloc_past _ T 1 o_).trans t1;obtain⟨Vx,Pc⟩:=Vx;obtain⟨Vp,O_⟩:=Vp;obtain⟨Ua,Op⟩:=Ua;obtain⟨Vy,Uv⟩:=Vy;clear Yp Jr Ar Zo Aq nS Xe Xu Zt Oi Ol Bf Ac Xt Du rn Ev Zh Pp Y_ Pt rm Es Zv Eh Ze Eo Oz Di Dg Oq Ej Ph Oj Et Ec Oc Ul Uw Ou Ub Jj Vi E_ Ov Pw Pi Ez Eb Dn Pk Ek Pm Ei Uq Dp Oh Ud Jw;cases b7
   ·clear Py Dv Ua Vy Op Uv m1 Da Pu;go_upto_region 28 with(at_builtin;refine aC rfl _ _ _ rfl _ _ _ _ rfl rfl Bt.out ?_);rw[<-Bw.out];clear n1 Eq t1 f0 f1 f2;go_wp2_with fail;refine bodyPost_ret (by simp[results,results76,go_sem,Uu.out.1,Uu.out.2];try rfl) rfl ?_;exact⟨_,_,rfl,Ot.out.1,Ot.out.2⟩
   ·clear Px El Vx Vp Pc O_ n1 Eq;go_upto_region 28 with(at_builtin;refine aC rfl _ _ _ rfl _ _ _ _ rfl rfl Bb.out ?_);rw[<-Br.out];clear m1 Da t1 f0 f1 f2 Pu;go_wp2_with fail;refine bodyPost_ret (by simp[results,results76,go_sem,Uz.out.1,Uz.out.2];try rfl) rfl ?_;exact⟨_,_,rfl,Od.out.1,Od.out.2⟩
theorem qZ(x:Act):∀(ds:List Tmp) (a:Act) (t:Tmp),a.tmps.size=x.tmps.size->(∀t∈ds,t<x.tmps.size)->(ds.foldl (λa t=>a.put (some t) (x.eval (.tmp t))) a).tmps[t]? =if t∈ds then x.tmps[t]? else a.tmps[t]?
 | [],a,t,_,_=>by simp
 | d::ds,a,t,hs,hin=>by
  have hd:d<x.tmps.size:=hin d i_;rw[foldl_cons,qZ x ds _ t (by simp[Act.put];exact hs) (λt ht=>hin t (by simp[ht]))];by_cases h1:t∈ds
  ·rw[if_pos h1,if_pos (by simp[h1])]
  ·rw[if_neg h1];by_cases h2:t=d
   ·subst h2;rw[if_pos i_];have:t<a.tmps.size:=by rw[hs];exact hd
    simp[Act.put,Act.eval,this,hd]
   ·rw[if_neg (by simp[h1,h2])];simp[Act.put,Array.getElem?_setIfInBounds_ne (λe=>h2 e.symm)]
theorem kJ(x:Act):∀(ds:List Tmp) (a:Act),(ds.foldl (λa t=>a.put (some t) (x.eval (.tmp t))) a).defers=a.defers
 | [],a=>rfl
 | d::ds,a=>by rw[foldl_cons,kJ x ds];rfl
def zU{I x:Act}(J:List Tmp)(Y:x.defers=I.defers)(Z:x.tmps.size=I.tmps.size)(Ja:∀t∈J,t<I.tmps.size)(Jb:∀t,t∉J->x.tmps[t]? =I.tmps[t]?):x=J.foldl (λa t=>a.put (some t) (x.eval (.tmp t))) I:=by
 have U:(J.foldl (λa t=>a.put (some t) (x.eval (.tmp t))) I).tmps=x.tmps:=by
  apply Array.ext_getElem?;intro t;rw[qZ x J I t Z.symm (λt ht=>by rw[Z];exact Ja t ht)];by_cases h:t∈J
  ·rw[if_pos h]
  ·rw[if_neg h,Jb t h]
 have h2:=kJ x J I;obtain⟨xt,xd⟩:=x;generalize J.foldl (λa t=>a.put (some t) ((⟨xt,xd⟩:Act).eval (.tmp t))) I=y at U h2⊢;obtain⟨yt,yd⟩:=y;simp only at U h2 Y;rw[U,h2,Y]
def pI{i:Nat}(h:i<10):i=0∨i=1∨i=2∨i=3∨i=4∨i=5∨i=6∨i=7∨i=8∨i=9:=by omega
section
variable{g M len cap O R4 N fl gl b c b' c' bb bn bc:Nat}{a:Option Addr}{w W:AT}{gs:List Gl}{Q:List FV}{R:List SV}
def QP.below{W':AT}(h:QP g M a len cap O R4 N fl gl w W b c b' c' gs Q bb bn bc R)(hb:Bl W W'):QP g M a len cap O R4 N fl gl w W' b c b' c' gs Q bb bn bc R:=
 ⟨h.pp.below hb,h.br.below hb,h.rl,h.es,h.bne⟩
def QP.alloc(h:QP g M a len cap O R4 N fl gl w W b c b' c' gs Q bb bn bc R)(o:Obj):QP g M a len cap O R4 N fl gl w (W.alloc o) b c b' c' gs Q bb bn bc R:=
 h.below (r_.alloc n_ o)
def PP.cp{I:BY}(h:PP g M a len cap O R4 N fl gl w W b c b' c' gs Q)(Jb:BR (λk=>k<M∨k=R4∨k=b') N W I R)(hl:R.length<=20000)(Ja:∀k,I.ownBlock=some k->k≠b'):CP g M a len cap O R4 N fl w W I (rV b gl c) b' c' gs Q R:=by
 obtain⟨Z,l1,l2,l3,l4⟩:=h.lo;obtain⟨J,q2,U,q4,q5,q6⟩:=h.ln;obtain⟨e1,Y,e3⟩:=h.ne;obtain⟨⟨s1,s2⟩,s3,s4⟩:=h.rng;refine⟨h.box,h.res,h.gr,h.fr.less (λk hk=>by rcases hk with e|e;exact .inl e;exact .inr o_),Jb,⟨J,U,o_,hl⟩,h.gn,h.cur,h.tcs,⟨Y,o_,λk hk=>?_,Ja⟩,⟨Z,l1,l2,o_⟩⟩;simp only[ownBlock,GD]at hk;omega
def QP.less(h:QP g M a len cap O R4 N fl gl w W b c b' c' gs Q bb bn bc R):BR (λk=>k<M∨k=R4∨k=b') N W (rV bb bn bc) R:=by
 obtain⟨J,Z,l2,l3,I⟩:=h.pp.lo;obtain⟨⟨s1,s2⟩,U,Y⟩:=h.pp.rng;exact⟨h.br.row.less (λk hk=>by rcases hk with e|e|e;exact .inl e;exact .inr o_;exact .inr o_),h.br.ok⟩
def QP.put(h:QP g M a len cap O R4 N fl gl w W b c b' c' gs Q bb bn bc R)(hL:Lo g a len (S0 g) w.heap.size)(i:Nat)(hi:i<bn)(I:Nat)(hc:I<6):
  ∃x,W.cell? ⟨bb,i*6+I,none⟩=(cH x)[I]? /\ D4 W bb (i*6+I)/\(bV x.s.e 5000/\bV x.s.f 5000/\x.s.name.size<=100000)/\x.s.e.length<=3000/\(∀W',ak (λk=>k<M∨w.heap.size<=k) W W'->aw W' x.ve x.s.e/\aw W' x.vf x.s.f) /\
   ∀(u:BY) (x':SV),cH x'=(cH x).set I u->(∀W',ak (λk=>(k<M∨k=R4∨k=b')∨k=bb) W W'->aw W' x'.ve x'.s.e/\aw W' x'.vf x'.s.f)->(bV x'.s.e 5000/\bV x'.s.f 5000/\x'.s.name.size<=100000)->∃R',CP g M a len cap O R4 N fl w (W.setCell ⟨bb,i*6+I,none⟩ u) (rV bb bn bc) (rV b gl c) b' c' gs Q R':=by
 obtain⟨l0,l1,l2,l3,l4⟩:=h.pp.lo;obtain⟨r1,r2,r3⟩:=h.rl;obtain⟨b1,b2,b3⟩:=h.bne;have J:i<R.length:=o_;have Jf:=h.br.rng bb rfl;have Jc:W.ownsRow N 132 6 (rV bb bn bc) R.length (db R):=h.br.row.row;have Z:W.ownsRow N 132 6 (rV bb bn bc) bn (db R):=by have U:=Jc;rw[r1]at U;exact U
 have Jg:=j2 R;refine⟨R[i],?_,ownsRow.frozenAt Z _,h.br.ok _ (g_ J),h.es _ (g_ J),λW' hW'=>h.br.row.st W' (hW'.mono λk hk=>.inl hk) _ (g_ J),λu x' hx hp ho=>?_⟩
 ·rw[ownsRow.cellAt Z (i*6+I) o_,j3 R i I J hc]
 ·have Je:=h.less.put i I u x' J hc hx hp ho;have Y:ak (λk=>k=bb) W (W.setCell ⟨bb,i*6+I,none⟩ u):=(ak.refl (λk=>k=bb) W).setCell (p:=⟨bb,i*6+I,none⟩) rfl _;have Jd:=h.pp.past Y (h.pp.cur.new hL Y (λk hk=>by omega)) (λk hk=>by have e:k=bb:=hk;exact⟨.inr o_,o_,o_,o_,o_⟩);exact⟨_,Jd.cp Je (by rw[length_set];omega) (λk hk=>by simp only[ownBlock,GD]at hk;omega)⟩
def QP.kind(h:QP g M a len cap O R4 N fl gl w W b c b' c' gs Q bb bn bc R)(hL:Lo g a len (S0 g) w.heap.size)(i:Nat)(hi:i<bn):
  (∃k0:Int,DO W bb (i*6) (V k0))/\D4 W bb (i*6)/\∀n:Int,∃R',CP g M a len cap O R4 N fl w (W.setCell ⟨bb,i*6,none⟩ (V n)) (rV bb bn bc) (rV b gl c) b' c' gs Q R':=by
 obtain⟨x,Y,Z,J,hl,I,U⟩:=h.put hL i hi 0 o_;obtain⟨l0,l1,l2,l3,l4⟩:=h.pp.lo;have Jb:=h.pp.rng;have Ja:=h.br.rng bb rfl;refine⟨⟨_,Y⟩,Z,λn=>U _ ⟨⟨n,x.s.name,x.s.e,x.s.f,x.s.thn,x.s.els⟩,x.ve,x.vf,[],[]⟩ rfl (λW' hW'=>I W' (hW'.mono λk hk=>?_)) J⟩;rcases hk with(e|e|e)|e
 ·exact .inl e
 all_goals exact .inr o_
def QP.nm(h:QP g M a len cap O R4 N fl gl w W b c b' c' gs Q bb bn bc R)(hL:Lo g a len (S0 g) w.heap.size)(i:Nat)(hi:i<bn):
  (∃k0,DO W bb (i*6+1) (sV k0))/\D4 W bb (i*6+1)/\∀n:GA,n.size<=100000->∃R',CP g M a len cap O R4 N fl w (W.setCell ⟨bb,i*6+1,none⟩ (sV n)) (rV bb bn bc) (rV b gl c) b' c' gs Q R':=by
 obtain⟨x,Y,Z,I,hl,J,U⟩:=h.put hL i hi 1 o_;obtain⟨l0,l1,l2,l3,l4⟩:=h.pp.lo;have Jb:=h.pp.rng;have Ja:=h.br.rng bb rfl;refine⟨⟨_,Y⟩,Z,λn hn=>U _ ⟨⟨x.s.kind,n,x.s.e,x.s.f,x.s.thn,x.s.els⟩,x.ve,x.vf,[],[]⟩ rfl (λW' hW'=>J W' (hW'.mono λk hk=>?_)) ⟨I.1,I.2.1,hn⟩⟩;rcases hk with(e|e|e)|e
 ·exact .inl e
 all_goals exact .inr o_
def QP.thn(h:QP g M a len cap O R4 N fl gl w W b c b' c' gs Q bb bn bc R)(hL:Lo g a len (S0 g) w.heap.size)(i:Nat)(hi:i<bn):
  (∃k0:Int,DO W bb (i*6+4) (V k0))/\D4 W bb (i*6+4)/\∀n:Int,∃R',CP g M a len cap O R4 N fl w (W.setCell ⟨bb,i*6+4,none⟩ (V n)) (rV bb bn bc) (rV b gl c) b' c' gs Q R':=by
 obtain⟨x,Y,Z,J,hl,I,U⟩:=h.put hL i hi 4 o_;obtain⟨l0,l1,l2,l3,l4⟩:=h.pp.lo;have Jb:=h.pp.rng;have Ja:=h.br.rng bb rfl;refine⟨⟨_,Y⟩,Z,λn=>U _ ⟨⟨x.s.kind,x.s.name,x.s.e,x.s.f,n,x.s.els⟩,x.ve,x.vf,[],[]⟩ rfl (λW' hW'=>I W' (hW'.mono λk hk=>?_)) J⟩;rcases hk with(e|e|e)|e
 ·exact .inl e
 all_goals exact .inr o_
def QP.ex(h:QP g M a len cap O R4 N fl gl w W b c b' c' gs Q bb bn bc R)(hL:Lo g a len (S0 g) w.heap.size)(i:Nat)(hi:i<bn):
  (∃va vn vc es,W.cell? ⟨bb,i*6+2,none⟩=some (.slice va vn vc)/\bV es 3000/\∀W',ak (λk=>k<M∨w.heap.size<=k) W W'->aw W' (.slice va vn vc) es)/\W.frozen? ⟨bb,i*6+2,none⟩=false/\∀(ve:BY) (B:Nat) (e:List Nd),aV B W ve e->(bb<B/\O<B/\b'<B)->bV e 5000->∃R',CP g M a len cap O R4 N fl w (W.setCell ⟨bb,i*6+2,none⟩ ve) (rV bb bn bc) (rV b gl c) b' c' gs Q R':=by
 obtain⟨x,hx,hz,I,hl,Y,hs⟩:=h.put hL i hi 2 o_;obtain⟨l0,l1,l2,l3,l4⟩:=h.pp.lo;have Jc:=h.pp.rng;have Jb:=h.br.rng bb rfl;refine⟨?_,hz,λve B e hr hB hn=>hs _ ⟨⟨x.s.kind,x.s.name,e,x.s.f,x.s.thn,x.s.els⟩,ve,x.vf,[],[]⟩ rfl (λW' hW'=>⟨gd hr (λk hk=>?_) W' hW',(Y W' (hW'.mono λk hk=>?_)).2⟩) ⟨hn,I.2.1,I.2.2⟩⟩
 ·have U:=λW' hW'=>(Y W' hW').1;obtain⟨va,vc,J,-⟩:=(U W (ak.refl _ _));have Z:W.cell? ⟨bb,i*6+2,none⟩=some x.ve:=hx;rw[J]at Z;refine⟨va,_,vc,x.s.e,Z,⟨hl,I.1.2⟩,λW' hW'=>?_⟩;have:=U W' hW'
  rw[J]at this;exact this
 ·rcases hk with(e|e|e)|e <;> omega
 ·rcases hk with(e|e|e)|e
  ·exact .inl e
  all_goals exact .inr o_
def QP.fput(h:QP g M a len cap O R4 N fl gl w W b c b' c' gs Q bb bn bc R)(hL:Lo g a len (S0 g) w.heap.size)(f:Nat)(hf:f<fl)(I:Nat)(hc:I<3):
  ∃x,W.cell? ⟨b',f*3+I,none⟩=(cd x)[I]? /\ D4 W b' (f*3+I)/\sZ x.f/\x.f.params.length<=20/\(∀W',ak (λk=>k<M∨w.heap.size<=k) W W'->a_ W' x.vp x.f.params/\zL W' x.vb x.R/\x.R.map (·.s)=x.f.body) /\
   ∀(u:BY) (x':FV),cd x'=(cd x).set I u->(∀W',ak (λk=>(k<M∨k=R4)∨k=b') W W'->a_ W' x'.vp x'.f.params/\zL W' x'.vb x'.R/\x'.R.map (·.s)=x'.f.body)->sZ x'.f->∃Q',CP g M a len cap O R4 N fl w (W.setCell ⟨b',f*3+I,none⟩ u) (rV bb bn bc) (rV b gl c) b' c' gs Q' R:=by
 obtain⟨l0,l1,l2,l3,l4⟩:=h.pp.lo;obtain⟨q1,q2,q3,q4,q5,q6⟩:=h.pp.ln;obtain⟨r1,r2,r3⟩:=h.rl;obtain⟨b1,b2,b3⟩:=h.bne;obtain⟨e1,e2,e3⟩:=h.pp.ne;obtain⟨⟨s1,s2⟩,s3,s4⟩:=h.pp.rng;have U:f<Q.length:=o_;have Jh:=h.br.rng bb rfl;have Y:=h.pp.fr;have Je:W.ownsRow N 97 3 (rV b' fl c') Q.length (cq Q):=Y.row.row;have Ja:W.ownsRow N 97 3 (rV b' fl c') fl (cq Q):=by have Z:=Je;rw[q1]at Z;exact Z
 have Ji:=gz Q;refine⟨Q[f],?_,ownsRow.frozenAt Ja _,Y.ok _ (g_ U),(h.pp.ob _ (g_ U)).2.2.1,λW' hW'=>Y.row.st W' (hW'.mono λk hk=>.inl hk) _ (g_ U),λu x' hx hp ho=>?_⟩
 ·rw[ownsRow.cellAt Ja (f*3+I) o_,gA Q f I U hc]
 ·have Jb:F2 (λk=>k<M∨k=R4) N W (rV b' fl c') Q:=Y.less (λk hk=>by rcases hk with e|e;exact .inl e;exact .inr o_);have Jg:=Jb.put f I u x' U hc hx hp ho;have J:ak (λk=>k=b') W (W.setCell ⟨b',f*3+I,none⟩ u):=(ak.refl (λk=>k=b') W).setCell (p:=⟨b',f*3+I,none⟩) rfl _;have Jf:BR (λk=>k<M∨w.heap.size<=k) N (W.setCell ⟨b',f*3+I,none⟩ u) (rV bb bn bc) R:=⟨h.br.row.past J (λk hk=>.inr o_) (λk hk e=>by simp only[ownBlock,GD]at hk;have e:k=b':=e;omega),h.br.ok⟩;refine⟨_,h.pp.box.tcs l4 J (λe=>e2 e),h.pp.res.tcs o_ J (λe=>by have e:R4=b':=e;omega),fI h.pp.gr J (λk hk e=>by simp only[ownBlock,GD]at hk;have e:k=b':=e;omega),Jg,⟨Jf.row.less (λk hk=>by rcases hk with e|e|e;exact .inl e;exact .inr o_;exact .inr o_),Jf.ok⟩,⟨by rw[length_set];exact q1,q3,o_,o_⟩,h.pp.gn,h.pp.cur.new hL J (λk hk=>by omega),h.pp.tcs.next J (λk hk=>.inr o_),⟨e2,o_,λk hk=>?_,λk hk=>?_⟩,⟨l0,l1,l2,o_⟩⟩
  ·simp only[ownBlock,GD]at hk;omega
  ·simp only[ownBlock,GD]at hk;omega
def QP.fnm(h:QP g M a len cap O R4 N fl gl w W b c b' c' gs Q bb bn bc R)(hL:Lo g a len (S0 g) w.heap.size)(f:Nat)(hf:f<fl):
  (∃k0,DO W b' (f*3) (sV k0))/\D4 W b' (f*3)/\∀n:GA,n.size<=100000->∃Q',CP g M a len cap O R4 N fl w (W.setCell ⟨b',f*3,none⟩ (sV n)) (rV bb bn bc) (rV b gl c) b' c' gs Q' R:=by
 obtain⟨x,Y,Z,I,hl,J,U⟩:=h.fput hL f hf 0 o_;obtain⟨l0,l1,l2,l3,l4⟩:=h.pp.lo;have Ja:=h.pp.rng;refine⟨⟨_,Y⟩,Z,λn hn=>U _ ⟨⟨n,x.f.params,x.f.body⟩,x.vp,x.vb,x.R,[],[]⟩ rfl (λW' hW'=>J W' (hW'.mono λk hk=>?_)) ⟨hn,I.pl,I.pn,I.bu,I.st⟩⟩;rcases hk with(e|e)|e
 ·exact .inl e
 all_goals exact .inr o_
def QP.fps(h:QP g M a len cap O R4 N fl gl w W b c b' c' gs Q bb bn bc R)(hL:Lo g a len (S0 g) w.heap.size)(f:Nat)(hf:f<fl):
  (∃va vn vc ps,W.cell? ⟨b',f*3+1,none⟩=some (.slice va vn vc)/\(ps.length<=20/\∀p∈ps,p.size<=100000)/\∀W',ak (λk=>k<M∨w.heap.size<=k) W W'->a_ W' (.slice va vn vc) ps)/\W.frozen? ⟨b',f*3+1,none⟩=false/\∀(vp:BY) (B:Nat) (ps:List GA),W.ownsRow B 9 1 vp ps.length (ps.map Value.string)->(O<B/\b'<B)->(ps.length<=30/\∀p∈ps,p.size<=100000)->∃Q',CP g M a len cap O R4 N fl w (W.setCell ⟨b',f*3+1,none⟩ vp) (rV bb bn bc) (rV b gl c) b' c' gs Q' R:=by
 obtain⟨x,hx,hz,I,hl,Y,hs⟩:=h.fput hL f hf 1 o_;obtain⟨l0,l1,l2,l3,l4⟩:=h.pp.lo;have Jb:=h.pp.rng;refine⟨?_,hz,λvp B ps hr hB hn=>hs _ ⟨⟨x.f.name,ps,x.f.body⟩,vp,x.vb,x.R,[],[]⟩ rfl (λW' hW'=>⟨fV (aN hr hW' (λk hk=>?_)),(Y W' (hW'.mono λk hk=>?_)).2⟩) ⟨I.nm,hn.1,hn.2,I.bu,I.st⟩⟩
 ·have U:=λW' hW'=>(Y W' hW').1;obtain⟨va,vc,J,-⟩:=(U W (ak.refl _ _));have Z:W.cell? ⟨b',f*3+1,none⟩=some x.vp:=hx;rw[J]at Z;refine⟨va,_,vc,x.f.params,Z,⟨hl,I.pn⟩,λW' hW'=>?_⟩;have:=U W' hW'
  rw[J]at this;exact this
 ·rcases hk with(e|e)|e <;> omega
 ·rcases hk with(e|e)|e
  ·exact .inl e
  all_goals exact .inr o_
end
section
variable{g M len cap O R4 N fl gl b c b' c' bb bn bc B:Nat}{a:Option Addr}{w W W':AT}{gs:List Gl}{Q:List FV}{R:List SV}{S:D6}{vb v:BY}
def QP.past(h:QP g M a len cap O R4 N fl gl w W b c b' c' gs Q bb bn bc R)(ht:ak S W W')(hc:dS g a len cap W')(hS:∀k,S k->(k=g∨w.heap.size<=k)/\k≠O/\k≠R4/\k≠b/\k≠b'/\k≠bb):QP g M a len cap O R4 N fl gl w W' b c b' c' gs Q bb bn bc R:=
 ⟨h.pp.past ht hc (λk hk=>by obtain⟨h1,h2,h3,h4,h5,-⟩:=hS k hk;exact⟨h1,h2,h3,h4,h5⟩),⟨h.br.row.past ht (λk hk=>(hS k hk).1.imp (λe=>Ft h.pp.lo) id) (λk hk e=>by
  simp only[ownBlock,GD]at hk;exact(hS k e).2.2.2.2.2 hk.symm),h.br.ok⟩,h.rl,h.es,h.bne⟩
def QP.new(h:QP g M a len cap O R4 N fl gl w W b c b' c' gs Q bb bn bc R)(U:Lo g a len (S0 g) w.heap.size)(J:ak S W W')(I:∀k,S k->B<=k)(hB:O<B/\b<B/\b'<B/\bb<B):QP g M a len cap O R4 N fl gl w W' b c b' c' gs Q bb bn bc R:=by
 obtain⟨Z,l1,l2,l3,Y⟩:=h.pp.lo;refine h.past J (h.pp.cur.new U J (λk hk=>Ft (I k hk))) (λk hk=>?_);have:=I k hk;exact⟨.inr o_,o_,o_,o_,o_,o_⟩
def QP.hi(h:QP g M a len cap O R4 N fl gl w W b c b' c' gs Q bb bn bc R):O<W.heap.size/\b<W.heap.size/\b'<W.heap.size/\bb<W.heap.size:=
 ⟨h.pp.lo.2.2.2.2,h.pp.rng.1.2,h.pp.rng.2.2,(h.br.rng bb rfl).2⟩
structure RP (g M:Nat) (a:Option Addr) (len cap O R4 N fl gl:Nat) (w W:AT) (b c b' c':Nat) (gs:List Gl) (Q:List FV) (vb:BY) (R:List SV):Prop where
 pp:PP g M a len cap O R4 N fl gl w W b c b' c' gs Q
 br:BR (λk=>k<M∨k=R4∨k=b') N W vb R
 bne:∀k,vb.ownBlock=some k->k≠O/\k≠b/\k≠b'
def QP.rp(h:QP g M a len cap O R4 N fl gl w W b c b' c' gs Q bb bn bc R):RP g M a len cap O R4 N fl gl w W b c b' c' gs Q (rV bb bn bc) R:=
 ⟨h.pp,h.less,λk hk=>by simp only[ownBlock,GD]at hk;have:=h.bne;omega⟩
def RP.cp(h:RP g M a len cap O R4 N fl gl w W b c b' c' gs Q vb R)(hl:R.length<=20000):CP g M a len cap O R4 N fl w W vb (rV b gl c) b' c' gs Q R:=h.pp.cp h.br hl (λk hk=>(h.bne k hk).2.2)
def RP.dr(h:RP g M a len cap O R4 N fl gl w W b c b' c' gs Q vb R)(hd:Dr g a len cap (S0 g) W W'):RP g M a len cap O R4 N fl gl w W' b c b' c' gs Q vb R:=
 ⟨h.pp.dr hd,⟨h.br.row.past hd.tcs (λk hk=>.inl (by have e:k=g:=hk;have:=h.pp.lo;omega)) (λk hk e=>by
  have e:k=g:=e;have:=(h.br.rng k hk).1
  have:=h.pp.lo
  omega),h.br.ok⟩,h.bne⟩
def RP.below(h:RP g M a len cap O R4 N fl gl w W b c b' c' gs Q vb R)(hb:Bl W W'):RP g M a len cap O R4 N fl gl w W' b c b' c' gs Q vb R:=
 ⟨h.pp.below hb,h.br.below hb,h.bne⟩
def RP.app(h:RP g M a len cap O R4 N fl gl w W b c b' c' gs Q vb R)(hL:Lo g a len (S0 g) w.heap.size)(hl:R.length<=15000)(kd k v:Int)(nm s:GA)(hn:nm.size<=100000)(hs:s.size<=100000):
  ∃va vn vc w3,(Builtin.append_ #[95,95] 95 #[vb,.slice (some ⟨W.heap.size+1,0,none⟩) 1 1]).run prog ((W.alloc (.cells #[V k,V v,sV s] 134)).alloc (.cells #[V kd,sV nm,rV W.heap.size 1 1,nV,V 0,V 0] 132))=.ok (.slice va vn vc) w3/\vn=R.length+1/\∃R',R'.length=R.length+1/\RP g M a len cap O R4 N fl gl w w3 b c b' c' gs Q (.slice va vn vc) R':=by
 obtain⟨l0,l1,l2,l3,l4⟩:=h.pp.lo;obtain⟨i0,hi,Jj,Jk,Jm⟩:=info_parts j5;obtain⟨⟨s1,s2⟩,s3,s4⟩:=h.pp.rng;have Jg:Bl W (W.alloc (.cells #[V k,V v,sV s] 134)):=au _ _;have Jf:=ct W W.heap.size n_ k v s;have Jb:(W.alloc (.cells #[V k,V v,sV s] 134)).heap.size=W.heap.size+1:=i_;obtain⟨W1,Ji⟩:=q_ (W.alloc (.cells #[V k,V v,sV s] 134));rw[<-Ji]at Jg Jf Jb⊢;rw[<-Jb];have U:Bl W1 (W1.alloc (.cells #[V kd,sV nm,rV W.heap.size 1 1,nV,V 0,V 0] 132)):=au _ _;have Ja:(W1.alloc (.cells #[V kd,sV nm,rV W.heap.size 1 1,nV,V 0,V 0] 132)).ownsRow W1.heap.size 132 6 (rV W1.heap.size 1 1) 1 (db [⟨⟨kd,nm,[⟨k,v,s⟩],[],0,0⟩,rV W.heap.size 1 1,nV,[],[]⟩]):=ownsRow_lit W1 #[V kd,sV nm,rV W.heap.size 1 1,nV,V 0,V 0] 1 n_ d_ rfl;have Jd:(W1.alloc (.cells #[V kd,sV nm,rV W.heap.size 1 1,nV,V 0,V 0] 132)).heap.size=W1.heap.size+1:=i_;obtain⟨Y,Jh⟩:=q_ (W1.alloc (.cells #[V kd,sV nm,rV W.heap.size 1 1,nV,V 0,V 0] 132));rw[<-Jh]at U Ja Jd⊢;have h2:=(h.below Jg).below U;have Jn:aV W.heap.size Y _ _:=aV.below Jf U;have J:=h.br.rng;have Jl:∀W',ak (λj=>(j<M∨j=R4∨j=b')∨vb.ownBlock=some j) Y W'->AZ [⟨⟨kd,nm,[⟨k,v,s⟩],[],0,0⟩,rV W.heap.size 1 1,nV,[],[]⟩] W':=λW' hW' x hx=>by
  simp only[GM]at hx;subst hx;refine⟨gd Jn (λj hj=>?_) W' hW',aX W'⟩;rcases hj with(e|e|e)|e
  ·omega
  ·omega
  ·omega
  ·exact(J j e).2
 obtain⟨v',w3,r1,I,Z,r4⟩:=mt (Pg:=prog) (w:=Y) (T:=132) (t:=95) (c:=1) (m:=1) (P2:=AZ [⟨⟨kd,nm,[⟨k,v,s⟩],[],0,0⟩,rV W.heap.size 1 1,nV,[],[]⟩]) 95 underlying95 hi Jj Jk Jm rfl d_ h2.br.row (some ⟨W1.heap.size,0,none⟩) (λe=>by cases e) rfl (λad had j u hu=>by cases had;exact ownsRow.cells Ja (g:=W1.heap.size) rfl j u hu) (j4 _ λq hq=>by simp only[GM]at hq;subst hq;exact⟨rfl,rfl⟩) Jl o_ d_ o_;obtain⟨va,vc,rfl,-⟩:=aI I.row;refine⟨va,_,vc,w3,r1,rfl,R++[⟨⟨kd,nm,[⟨k,v,s⟩],[],0,0⟩,rV W.heap.size 1 1,nV,[],[]⟩],i_,?_,⟨⟨?_,λW' hW' x hx=>?_⟩,λx hx=>?_⟩,λj hj=>?_⟩
 ·refine h2.pp.past Z (h2.pp.cur.new hL Z (λj hj=>by have:=(J j hj).1;omega)) (λj hj=>?_);have:=(J j hj).1
  obtain⟨e1,e2,e3⟩:=h.bne j hj;exact⟨.inr o_,e1,o_,e2,e3⟩
 ·rw[l_a,jE];exact I.row
 ·rcases GJ.1 hx with hx|hx
  ·exact(I.st W' hW').1 x hx
  ·exact(I.st W' hW').2 x hx
 ·rcases GJ.1 hx with hx|hx
  ·exact h.br.ok x hx
  ·simp only[GM]at hx;subst hx;exact⟨(bV.one hs).more o_,bV.nil.more o_,hn⟩
 ·rcases r4 j hj with h5|h5
  ·exact h.bne j h5
  ·omega
def zV(w:AT)(Z:Option Addr)(U Y:Nat)(I:List Nd)(h:aw (w.alloc (.cells #[] 134)) (.slice Z U Y) I)(hl:I.length<=100000):
  ∃ua un uc w1,(Builtin.append_ #[130,130] 130 #[rV w.heap.size 0 0,.slice Z U Y]).run prog (w.alloc (.cells #[] 134))=.ok (.slice ua un uc) w1/\aV w.heap.size w1 (.slice ua un uc) I/\Bl w w1:=by
 have J:Bl w (w.alloc (.cells #[] 134)):=au _ _;have h0:=gF w w.heap.size n_;obtain⟨v',w',r1,r2,r3,r4⟩:=iG w.heap.size 130 _ [] h0 (.slice Z U Y) I h ZFs J.size;obtain⟨ua,uc,rfl,-⟩:=aI r2;exact⟨ua,_,uc,w',r1,Fc r2,J.grown r3 J.size (λj hj=>(ownsRow.lt h0 j hj).1)⟩
def uw{I:List Nd}(h:aV B w v I)(hB:B<=w.heap.size)(k x:Int)(s:GA)(hl:I.length<=100000):
  ∃ua un uc w1,(Builtin.append_ #[130,130] 130 #[v,rV w.heap.size 1 1]).run prog (w.alloc (.cells #[V k,V x,sV s] 134))=.ok (.slice ua un uc) w1/\un=I.length+1/\aV B w1 (.slice ua un uc) (I++[⟨k,x,s⟩])/\ak (λj=>B<=j) w w1:=by
 have J:Bl w (w.alloc (.cells #[V k,V x,sV s] 134)):=au _ _;have h0:=ct w w.heap.size n_ k x s;have Y:aV B (w.alloc (.cells #[V k,V x,sV s] 134)) v I:=aV.below h J;obtain⟨v',w',r1,U,Z,r4⟩:=iG B 130 v I Y _ _ h0.nodes ZFs (t_ hB J.size);obtain⟨ua,uc,rfl,-⟩:=aI U;exact⟨ua,_,uc,w',r1,i_,Fc U,(J.tcs).next (ak.of_grown (S:=λj=>B<=j) Z (λj hj=>(ownsRow.lt Y j hj).1)) (λj hj=>.inl hj)⟩
theorem wM:∀(gs:List Gl) (n:Int) (hp:0<gs.length),cU (gs.set 0 ⟨gs[0].name,n⟩)=(cU gs).set 1 (V n)
 | x::l,n,_=>rfl
theorem QP.gput(h:QP g M a len cap O R4 N fl gl w W b c b' c' gs Q bb bn bc R)(hL:Lo g a len (S0 g) w.heap.size):
  (∃k0:Int,W.cell? ⟨b,1,none⟩=some (V k0))/\W.frozen? ⟨b,1,none⟩=false/\∀n:Int,∃gs',CP g M a len cap O R4 N fl w (W.setCell ⟨b,1,none⟩ (V n)) (rV bb bn bc) (rV b gl c) b' c' gs' Q R:=by
 obtain⟨l0,l1,l2,l3,l4⟩:=h.pp.lo;obtain⟨q1,q2,q3,q4,q5,q6⟩:=h.pp.ln;obtain⟨r1,r2,r3⟩:=h.rl;obtain⟨b1,b2,b3⟩:=h.bne;obtain⟨e1,e2,e3⟩:=h.pp.ne;obtain⟨⟨s1,s2⟩,s3,s4⟩:=h.pp.rng;have Jb:W.ownsRow N 63 2 (rV b gl c) gs.length (cU gs):=h.pp.gr;have U:W.ownsRow N 63 2 (rV b gl c) gl (cU gs):=by have Y:=Jb;rw[q4]at Y;exact Y
 have Jf:=iY gs;refine⟨⟨gs[0].size,?_⟩,World.ownsRow.frozenAt U _,λn=>?_⟩
 ·rw[World.ownsRow.cellAt U 1 o_];exact iZ gs 0 1 o_ o_
 ·have I:ak (λk=>k=b) W (W.setCell ⟨b,1,none⟩ (V n)):=(ak.refl (λk=>k=b) W).setCell (p:=⟨b,1,none⟩) rfl _;have Je:GR N (W.setCell ⟨b,1,none⟩ (V n)) (rV b gl c) (gs.set 0 ⟨gs[0].name,n⟩):=by
   unfold GR;rw[List.length_set,wM gs n o_,q4];exact(U.stored 1 (V n)).1
  have Z:BR (λk=>k<M∨w.heap.size<=k) N (W.setCell ⟨b,1,none⟩ (V n)) (rV bb bn bc) R:=⟨h.br.row.past I (λk hk=>.inr o_) (λk hk e=>by simp only[Value.ownBlock,Option.some.injEq]at hk;have e:k=b:=e;omega),h.br.ok⟩;have Jd:F2 (λk=>k<M∨w.heap.size<=k) N (W.setCell ⟨b,1,none⟩ (V n)) (rV b' fl c') Q:=⟨h.pp.fr.row.past I (λk hk=>.inr o_) (λk hk e=>by simp only[Value.ownBlock,Option.some.injEq]at hk;have e:k=b:=e;omega),h.pp.fr.ok⟩;refine⟨_,h.pp.box.tcs l4 I (λe=>e1 e),h.pp.res.tcs o_ I (λe=>by have e:R4=b:=e;omega),Je,Jd.less (λk hk=>by rcases hk with e|e;exact .inl e;exact .inr o_),⟨Z.row.less (λk hk=>by rcases hk with e|e|e;exact .inl e;exact .inr o_;exact .inr o_),Z.ok⟩,⟨q1,q3,by rw[List.length_set];omega,o_⟩,λx J=>?_,h.pp.cur.new hL I (λk hk=>by omega),h.pp.tcs.next I (λk hk=>.inr o_),⟨e2,o_,λk hk=>?_,λk hk=>?_⟩,⟨l0,l1,l2,o_⟩⟩
  ·rcases List.mem_or_eq_of_mem_set J with J|rfl
   ·exact h.pp.gn x J
   ·exact h.pp.gn gs[0] (g_ _)
  ·simp only[Value.ownBlock,Option.some.injEq]at hk;omega
  ·simp only[Value.ownBlock,Option.some.injEq]at hk;omega
def QP.gapp(h:QP g M a len cap O R4 N fl gl w W b c b' c' gs Q bb bn bc R)(hL:Lo g a len (S0 g) w.heap.size)(nm:GA)(hn:nm.size<=100000):
  DO (W.alloc (.cells #[sV nm,V 0] 63)) O 0 (rV b gl c)/\∃ya yn yc w',(Builtin.append_ #[31,31] 31 #[rV b gl c,rV W.heap.size 1 1]).run prog (W.alloc (.cells #[sV nm,V 0] 63))=.ok (.slice ya yn yc) w'/\(DO w' O 0 (rV b gl c)/\D4 w' O 0)/\∃gs',CP g M a len cap O R4 N fl w (w'.setCell ⟨O,0,none⟩ (.slice ya yn yc)) (rV bb bn bc) (.slice ya yn yc) b' c' gs' Q R:=by
 have I:=h.alloc (.cells #[sV nm,V 0] 63);have Jb:(W.alloc (.cells #[sV nm,V 0] 63)).ownsRow W.heap.size 63 2 (rV W.heap.size 1 1) 1 (cU [⟨nm,0⟩]):=ownsRow_lit W #[sV nm,V 0] 1 n_ d_ rfl;have Jj:(W.alloc (.cells #[sV nm,V 0] 63)).heap.size=W.heap.size+1:=i_;obtain⟨W1,Jf⟩:=q_ (W.alloc (.cells #[sV nm,V 0] 63));rw[<-Jf]at I Jb Jj⊢;refine⟨(I.pp.box 0 _ rfl).1,?_⟩;obtain⟨l0,l1,l2,l3,l4⟩:=h.pp.lo;obtain⟨q1,q2,q3,q4,q5,q6⟩:=h.pp.ln;obtain⟨r1,r2,r3⟩:=h.rl;obtain⟨b1,b2,b3⟩:=h.bne;obtain⟨e1,e2,e3⟩:=h.pp.ne;obtain⟨⟨s1,s2⟩,s3,s4⟩:=h.pp.rng;have Jn:=h.br.rng bb rfl;obtain⟨i0,hi,Ji,Jd,Jl⟩:=info_parts ow;have Je:W1.ownsRow N 63 2 (rV b gl c) gs.length (cU gs):=I.pp.gr;obtain⟨v',w',x1,x2,x3,x4⟩:=cE (P:=prog) (w:=W1) N 31 31 63 i0 _ 2 24 underlying31 hi Ji Jd Jl rfl d_ _ gs.length (cU gs) Je (some ⟨W.heap.size,0,none⟩) 1 1 (cU [⟨nm,0⟩]) (λe=>by cases e) rfl (λad had j u hu=>by cases had;exact ownsRow.cells Jb (g:=W.heap.size) rfl j u hu) (λu hu=>by simp[cU,wI]at hu;rcases hu with rfl|rfl <;> rfl) o_ d_ o_;obtain⟨ya,yc,rfl,-⟩:=aI x2;have U:ak (λk=>k=b) W1 w':=ak.of_grown x3 (λk hk=>by simp only[ownBlock,GD]at hk;exact hk.symm);have Ja:=I.pp.box.tcs o_ U (λe=>e1 e);refine⟨ya,_,yc,w',x1,Ja 0 _ rfl,gs++[⟨nm,0⟩],?_⟩;have Jo:Bl W W1:=by rw[Jf];exact r_.alloc n_ _
 have Y:ak (λk=>k=O) w' (w'.setCell ⟨O,0,none⟩ (.slice ya (gs.length+1) yc)):=(ak.refl (λk=>k=O) w').setCell (p:=⟨O,0,none⟩) rfl _;have Jm:=U.size;have ho:∀k,(Value.slice ya (gs.length+1) yc).ownBlock=some k->k=b∨W1.heap.size<=k:=λk hk=>by
  rcases x4 k hk with e|e
  ·simp only[ownBlock,GD]at e;exact .inl e.symm
  ·exact .inr e
 have Jk:GR N (w'.setCell ⟨O,0,none⟩ (.slice ya (gs.length+1) yc)) (.slice ya (gs.length+1) yc) (gs++[⟨nm,0⟩]):=by
  have:=fI x2 Y (λk hk e=>by have e:k=O:=e;rcases ho k hk with h|h <;> omega)
  unfold GR;rw[l_a];have e:cU (gs++[⟨nm,0⟩])=cU gs++cU [⟨nm,0⟩]:=by simp[cU]
  rw[e];exact this
 have J:ak (λk=>k=b∨k=O) W1 (w'.setCell ⟨O,0,none⟩ (.slice ya (gs.length+1) yc)):=(U.mono λk hk=>.inl hk).next Y (λk hk=>.inl (.inr hk));have Z:BR (λk=>k<M∨w.heap.size<=k) N (w'.setCell ⟨O,0,none⟩ (.slice ya (gs.length+1) yc)) (rV bb bn bc) R:=⟨I.br.row.past J (λk hk=>.inr o_) (λk hk e=>by simp only[ownBlock,GD]at hk;have e:k=b∨k=O:=e;omega),h.br.ok⟩;have Jh:F2 (λk=>k<M∨w.heap.size<=k) N (w'.setCell ⟨O,0,none⟩ (.slice ya (gs.length+1) yc)) (rV b' fl c') Q:=⟨I.pp.fr.row.past J (λk hk=>.inr o_) (λk hk e=>by simp only[ownBlock,GD]at hk;have e:k=b∨k=O:=e;omega),h.pp.fr.ok⟩;refine⟨Ja.set 0 _,(I.pp.res.tcs o_ J (λe=>by have e:R4=b∨R4=O:=e;omega)),Jk,Jh.less (λk hk=>by rcases hk with e|e;exact .inl e;exact .inr o_),⟨Z.row.less (λk hk=>by rcases hk with e|e|e;exact .inl e;exact .inr o_;exact .inr o_),Z.ok⟩,⟨q1,q3,by simp;omega,o_⟩,λx hx=>?_,I.pp.cur.new hL J (λk hk=>by omega),I.pp.tcs.next J (λk hk=>.inr o_),⟨e2,o_,λk hk=>?_,λk hk=>?_⟩,⟨l0,l1,l2,o_⟩⟩
 ·rcases GJ.1 hx with hx|hx
  ·exact h.pp.gn x hx
  ·simp only[GM]at hx;subst hx;exact hn
 ·rcases ho k hk with h|h <;> omega
 ·simp only[ownBlock,GD]at hk;omega
def mB{e0:Nat}(h0:w.ownsRow B 9 1 (rV e0 0 0) 0 [])(hB:B<=w.heap.size)(U:Option Addr)(Z J:Nat)(I:List GA)(h:a_ w (.slice U Z J) I)(hl:I.length<=100000):
  ∃ua un uc w1,(Builtin.append_ #[94,94] 94 #[rV e0 0 0,.slice U Z J]).run prog w=.ok (.slice ua un uc) w1/\w1.ownsRow B 9 1 (.slice ua un uc) I.length (I.map Value.string)/\ak (λj=>j=e0) w w1/\∀k,(Value.slice ua un uc).ownBlock=some k->k=e0∨w.heap.size<=k:=by
 obtain⟨i0,hi,Ja,Jb,Jc⟩:=info_parts gy;obtain⟨a,c,e,hn,hc⟩:=h.src;simp only[Value.slice.injEq]at e;obtain⟨rfl,rfl,rfl⟩:=e;obtain⟨v1,w1,r1,Y,g1,f1⟩:=cE (P:=prog) (w:=w) B 94 94 9 i0 _ 1 16 underlying94 hi Ja Jb Jc rfl d_ _ 0 [] h0 U I.length J (I.map Value.string) (λe=>by rw[hn e];rfl) i_ hc (λu hu=>by obtain⟨x,-,rfl⟩:=mem_map.1 hu;rfl) o_ d_ hB;obtain⟨ua,uc,rfl,-⟩:=aI Y;refine⟨ua,_,uc,w1,r1,Fc Y,ak.of_grown g1 (λj hj=>by simp only[ownBlock,GD]at hj;exact hj.symm),λk hk=>?_⟩;rcases f1 k hk with h|h
 ·simp only[ownBlock,GD]at h;exact .inl h.symm
 ·exact .inr h
def pJ{I:List GA}(h:w.ownsRow B 9 1 v I.length (I.map Value.string))(hB:B<=w.heap.size)(nm:GA)(hl:I.length<=100000):
  ∃ua un uc w1,(Builtin.append_ #[94,94] 94 #[v,rV w.heap.size 1 1]).run prog (w.alloc (.cells #[sV nm] 9))=.ok (.slice ua un uc) w1/\w1.ownsRow B 9 1 (.slice ua un uc) (I++[nm]).length ((I++[nm]).map Value.string)/\ak (λj=>B<=j) w w1:=by
 obtain⟨Z,hi,Jd,Je,Jc⟩:=info_parts gy;have J:Bl w (w.alloc (.cells #[sV nm] 9)):=au _ _;have U:=ownB h J;have Jb:(w.alloc (.cells #[sV nm] 9)).ownsRow w.heap.size 9 1 (rV w.heap.size 1 1) 1 [sV nm]:=ownsRow_lit w #[sV nm] 1 n_ d_ rfl;obtain⟨v2,w2,r2,Y,g2,-⟩:=cE (P:=prog) (w:=w.alloc (.cells #[sV nm] 9)) B 94 94 9 Z _ 1 16 underlying94 hi Jd Je Jc rfl d_ v _ _ U (some ⟨w.heap.size,0,none⟩) 1 1 [sV nm] (λe=>by cases e) rfl (λad had j u hu=>by cases had;exact ownsRow.cells Jb (g:=w.heap.size) rfl j u hu) (λu hu=>by simp at hu;subst hu;rfl) o_ d_ (t_ hB J.size);obtain⟨a2,c2,rfl,-⟩:=aI Y;refine⟨a2,_,c2,w2,r2,?_,(J.tcs).next (ak.of_grown (S:=λj=>B<=j) g2 (λj hj=>(ownsRow.lt U j hj).1)) (λj hj=>.inl hj)⟩;have e1:(I++[nm]).length=I.length+1:=i_;have e2:(I++[nm]).map Value.string=I.map Value.string++[sV nm]:=i_;rw[e1,e2];exact Y
def QP.pick(h:QP g M a len cap O R4 N fl gl w W b c b' c' gs Q bb bn bc R)(Z:len<=1048576)(hL:Lo g a len (S0 g) w.heap.size)(I:List GA)(cs:Array BY)(n:Nat)(hn:n=I.length)(Jb:cs.toList=I.map Value.string)(hb:1<=n/\n<=1000)(hs:I.all (λp=>decide (p.size<=100000))=true):
  Calls prog 114 #[pV g,rV W.heap.size n n] (W.alloc (.cells cs 9)) λe w'=>∃s,s.size<=100000/\e=rW (sV s)/\QP g M a len cap O R4 N fl gl w w' b c b' c' gs Q bb bn bc R:=by
 have Y:S0 g g:=rfl;have Jc:=h.pp.lo;refine(eP g a len cap (S0 g) I _ _ Z Y (h.alloc _).pp.cur (jj I cs n hn Jb hb.2 (λk hk=>by have e:k=g:=hk;omega)) o_).mono ?_;rintro e w' ⟨s,U,rfl,J⟩;exact⟨s,by simpa using all_eq_true.1 hs s U,rfl,(h.alloc _).dr J⟩
def QP.low(h:QP g M a len cap O R4 N fl gl w W b c b' c' gs Q bb bn bc R):∀k,S0 g k->k<W.heap.size:=λk hk=>by have e:k=g:=hk;have:=h.pp.lo;omega
end
section
variable{g M len cap O R4 N fl gl b c b' c' bb bn bc n vn xn k:Nat}{a:Option Addr}{w W X:AT}{gs:List Gl}{Q:List FV}{R:List SV}{y:Int}{s:GA}{ps:List GA}
def QP.drew(h:QP g M a len cap O R4 N fl gl w W b c b' c' gs Q bb bn bc R):QP g M a len cap O R4 N fl gl w W.drew b c b' c' gs Q bb bn bc R:=h.below r_.drew
def QP.rlen(h:QP g M a len cap O R4 N fl gl w W b c b' c' gs Q bb bn bc R):R.length<=15000:=Ft h.rl
def QP.rlen'{I:List SV}(h:QP g M a len cap O R4 N fl gl w W b c b' c' gs Q bb bn bc R)(J:I.length=R.length+1):I.length<=20000:=Ft h.rl
def ux{f:Nat}(h:f<n):(0:Int)<=(f:Int)/\(f:Int)<(n:Int):=by omega
def zW(h:n<=3000):n<=100000:=by omega
def BG(h:n<=2100):n<=100000:=by omega
def EJ(h:n<=10000):n<=15000:=by omega
def EK(h:n<=10000):n<=20000:=by omega
def EL:BY->Nat
 | .slice _ n _=>n
 | _=>0
def wN{h:Nat}(J:y<2)(U:(vn:Int)<500+y)(I:vn=n)(Y:xn=n+1)(Z:h=n+1):xn=h/\h<=10000/\502-xn<502-vn:=by omega
def td{h:List Nd}{k x:Int}(Z:y<60)(Ja:(vn:Int)<1960+y)(Y:vn=h.length)(hx:xn=h.length+1)(I:bV h 2100)(J:s.size<=100000):xn=(h++[(⟨k,x,s⟩:Nd)]).length/\(h++[(⟨k,x,s⟩:Nd)]).length<=2100/\bV (h++[⟨k,x,s⟩]) 2100/\2100-xn<2100-vn:=by
 have U:(h++[(⟨k,x,s⟩:Nd)]).length=h.length+1:=i_;refine⟨o_,o_,⟨o_,λn hn=>?_⟩,o_⟩;rcases GJ.1 hn with hn|hn
 ·exact I.2 n hn
 ·simp only[GM]at hn;subst hn;exact J
def dX(w:AT)(o:Obj):w.heap.size<=(w.alloc o).heap.size:=by simp
def QP.keep(h:QP g M a len cap O R4 N fl gl w W b c b' c' gs Q bb bn bc R){x:Nat}{p q:BY}(I:DO W O 1 p/\DO W b' x q)(J:ak (λk=>k=g∨W.heap.size<=k) W X):DO X O 1 p/\DO X b' x q:=by
 obtain⟨Z,l1,l2,l3,U⟩:=h.pp.lo;obtain⟨⟨s1,s2⟩,s3,Y⟩:=h.pp.rng;exact⟨(c_ (J.block O U (λe=>by have e:O=g∨W.heap.size<=O:=e;omega))).trans I.1,(c_ (J.block b' Y (λe=>by have e:b'=g∨W.heap.size<=b':=e;omega))).trans I.2⟩
def kr(h:s∈ps)(I:ps.all (λp=>decide (p.size<=100000))=true):s.size<=100000:=by simpa using all_eq_true.1 I s h
section
variable{P:Program}{ops:Array Oper}{Q:Exit->Act->AT->Prop}{md:Region.Mode}{S:AT->Prop}{l:Nat}
def kK{i j:Nat}{I J:Oper}{fuel:Nat}{listed:Array Bool}{a:Act}(Z:Region.ready md ops listed=[i,j])(hi:ops[i]? =some I)(hj:ops[j]? =some J)
  (U:∀K:Act->AT->Prop,Shut (∀a' w',(i≠l->S w')->dl P md ops Q S l fuel (listed.setIfInBounds i true) a' w'->K a' w')->if Region.wanted I (yielded ops a.tmps)=true then I.wp P a w K Q else K (a.put I.dst undef) w)
  (h2:∀K:Act->AT->Prop,Shut (∀a' w',(j≠l->S w')->dl P md ops Q S l fuel (listed.setIfInBounds j true) a' w'->K a' w')->if Region.wanted J (yielded ops a.tmps)=true then J.wp P a w K Q else K (a.put J.dst undef) w):dl P md ops Q S l (fuel+1) listed a w:=by
 have Y:∀(x:Nat) (o:Oper),ops[x]? =some o->(∀K:Act->AT->Prop,Shut (∀a' w',(x≠l->S w')->dl P md ops Q S l fuel (listed.setIfInBounds x true) a' w'->K a' w')->if Region.wanted o (yielded ops a.tmps)=true then o.wp P a w K Q else K (a.put o.dst undef) w)->wpOp P ops Q x (λa' w'=>(x≠l->S w')/\dl P md ops Q S l fuel (listed.setIfInBounds x true) a' w') a w:=λx o ho h=>by
  unfold wpOp;simp only[ho];have:=h (λa' w'=>(x≠l->S w')/\dl P md ops Q S l fuel (listed.setIfInBounds x true) a' w') (λa' w' U h2=>⟨U,h2⟩)
  split
  ·rename_i hw;rw[if_pos hw]at this;exact .inl this
  ·rename_i hw;rw[if_neg hw]at this;exact this
 refine⟨λh0=>(by rw[Z]at h0;cases h0),λx hx=>?_⟩;rw[Z]at hx;simp only[mem_cons,not_mem_nil,or_false]at hx;rcases hx with rfl|rfl
 ·exact Y x I hi U
 ·exact Y x J hj h2
end
def ks(h:n<=20):n<=100000:=by omega
def pK(w:AT)(o p:Obj):w.heap.size<=((w.alloc o).alloc p).heap.size:=by simp;omega
def uy(h:k=n):n<=k:=by omega
def zX(h:k=n+1):n<=k:=by omega
def pL(h:ps.length<=20/\∀p∈ps,p.size<=100000)(I:s.size<=100000):(ps++[s]).length<=30/\∀p∈ps++[s],p.size<=100000:=by
 refine⟨by simp;omega,λp hp=>?_⟩;rcases GJ.1 hp with hp|hp
 ·exact h.2 p hp
 ·simp only[GM]at hp;subst hp;exact I
def EM(w:AT)(o:Obj):((w.alloc o).alloc (.cells #[] 9)).ownsRow w.heap.size 9 1 (.slice (some ⟨w.heap.size+1,0,none⟩) 0 0) 0 []:=by
 have:=ownsRow_lit (base:=w.heap.size) (w.alloc o) (e:=9) (size:=1) #[] 0 (dX w o) d_ rfl
 simpa using this
def EN(I:List GA)(cs:Array BY)(U:cs.toList=I.map Value.string)(Z:g<w.heap.size)(Y:ak (λj=>j=w.heap.size) ((w.alloc (.cells #[] 9)).alloc (.cells cs 9)) X)(J:I.length=4:=by rfl):∀W,ak (S0 g) X W->a_ W (.slice (some ⟨w.heap.size+1,0,none⟩) 4 4) I:=λW hW=>by
 have h:=jj (S:=λk=>k=g∨k=w.heap.size) (w:=w.alloc (.cells #[] 9)) I cs 4 J.symm U d_ (λk hk=>by simp;omega) W ((Y.mono λk hk=>.inr hk).next hW (λk hk=>.inl (.inl hk)));simpa using h
def EO(h:List GA)(cs:Array BY)(U:cs.toList=h.map Value.string)(Z:g<w.heap.size)(Y:ak (λj=>j=w.heap.size+1) ((w.alloc (.cells cs 9)).alloc (.cells #[] 9)) X)(J:h.length=4:=by rfl):∀W,ak (S0 g) X W->a_ W (rV w.heap.size 4 4) h:=λW hW=>by
 have I:ak (S0 g) (w.alloc (.cells cs 9)) X:=((ak.refl (S0 g) _).alloc (.cells #[] 9)).next Y (λk hk=>.inr (by have e:k=w.heap.size+1:=hk;simp;omega));exact jj (S:=S0 g) (w:=w) h cs 4 J.symm U d_ (λk hk=>by have e:k=g:=hk;omega) W (I.trans hW)
end
end Go.Proofs.YtffnkkpmlplfeaaGreatDoor
