import Derived.Test.YtlamjfhhefcohaaGreatDoorP32
import Derived.Test.YtlamjfhhefcohaaGreatDoorP16
set_option linter.unusedSectionVars false
variable [Inhabited Go.Proofs.YtlamjfhhefcohaaGreatDoor.Pick]
namespace Go.Proofs.YtlamjfhhefcohaaGreatDoor
open Go.Proofs.Tryz
open Go.RowKit
set_option linter.all false
set_option maxRecDepth 100000
set_option maxHeartbeats 16000000
section
variable{n:Nat}{G:GT}
theorem A7{T:Nat->To}{t:St}{s:PS}{r:List St}{s':PS}(h:Pa T n (.sg t) s (.s r) s')(hk:t.kind=3):t.e.length<=fJ r:=by
 cases h using Pa_i with
 | sgd n t s h1=>unfold i8;rw[if_pos hk,szS_cons];simp only;omega
 | sge n t s a s1 h1 h2=>unfold i8;rw[if_pos hk,szS_cons];simp only;omega
theorem xT(hL:ft G.T G.K)(hE:l9 G n)(hC:AY G n)(Jd:DW G n)(Je:wZ G n)(hB:Dp G n)(hA:Dq G n):Cx G (n+1):=by
 intro w s r s' hP Jb Jc hS;have Ja:eu n s:=Jc.le (Nat.le_succ n);rcases qp hP with⟨hi,hp⟩|⟨hi,a,s1,b,s2,hp,hb,⟨he,rfl,rfl⟩|⟨he,c,hc,rfl⟩⟩|⟨hi,a,s1,b,hp,hb,rfl⟩|⟨hi,a,s1,hp,rfl,rfl⟩|⟨hi,a,s1,hp,rfl,rfl⟩|⟨hq,⟨hc,a,s1,hb,hp⟩|⟨hc,hd,a,s1,hp,rfl,rfl⟩|⟨hc,hd,hp⟩⟩
 ·exact CB hL hA hS Ja Jb hi hp
 ·exact D1 hL hC hB hS Ja hi hp hb Jb he
 ·exact zY hL hC hB hS Ja hi hp hb Jb he hc
 ·exact xL hL hC hB hS Ja hi hp hb Jb
 ·exact CG hL hE hS Ja (by rw[szS_cons]at Jb;simp only at Jb;omega) hi hp
 ·exact CC hL hC hS Ja (by rw[szS_cons]at Jb;simp only at Jb;omega) hi hp
 ·exact xK hL Jd hA hS Ja hq (t_ (A7 hp rfl) Jb) Jb hc hb hp
 ·exact zX hL Je hS Ja hq (by rw[szS_cons]at Jb;simp only at Jb;omega) hc hd hp
 ·exact CD hL hA hS Ja hq Jb hc hd hp
theorem xU{G:GT}(hL:ft G.T G.K):∀n:Nat,Cx G n/\Dp G n/\Dq G n
 | 0=>⟨fun _ _ _ _ h=>(by cases h using Pa_i),fun _ _ _ _ h=>(by cases h using Pa_i),fun _ _ _ _ _ _ _ _ h=>(by cases h using Pa_i)⟩
 | n+1=>by
  obtain⟨h1,h2,h3⟩:=xU hL n;obtain⟨-,e2,e3,e4,e5⟩:=xi hL n;exact⟨xT hL e2 e3 e4 e5 h2 h3,xC hL h1,xG hL e2⟩
end
section
variable{g len cap T M:Nat}{a:Option Addr}
def S4(g T q I:Nat)(v:Value):Nat->Prop:=fun k=>k=g∨k=T∨k=q∨k=I∨v.ownBlock=some k
theorem Ac{q:Nat}{wr:World}{vF:Value}{ca pa:Option Addr}{cn cc pn pc:Nat}{cs:List ByteArray}{ps:List Int} 
  (Jc:∀W,am (Sv (Sx g T q) vF) wr W->Strs W (.slice ca cn cc) cs/\Ints W (.slice pa pn pc) ps) (hl:ps.length=cs.length/\cs.length<=4) (Jd:(∀x∈ps,0<=x/\x<=6)/\∀x∈cs,x.size<=100000)
  (Je:dP g a len cap wr) (Jf:g<T/\T<wr.heap.size/\g<q/\q<wr.heap.size) (hL:Lo g a len (S0 g) T) (Jg:T<q) (hv:∀k,vF.ownBlock=some k->q<k/\k<wr.heap.size):
  GS g a len cap wr.heap.size (S4 g T q wr.heap.size vF) (wr.alloc (.cells #[.slice ca cn cc,.slice pa pn pc,.slice none 0 0,.slice none 0 0,.int .i64 0] 130)) ⟨.slice ca cn cc,.slice pa pn pc,.slice none 0 0,.slice none 0 0,0,cs,ps,[],[]⟩ 10:=by
 have hf:=aJ wr #[.slice ca cn cc,.slice pa pn pc,.slice none 0 0,.slice none 0 0,.int .i64 0] 130 i_;have hs:(wr.alloc (.cells #[.slice ca cn cc,.slice pa pn pc,.slice none 0 0,.slice none 0 0,.int .i64 0] 130)).heap.size=wr.heap.size+1:=i_;refine⟨Je.alloc _,⟨(hf 0 _ rfl).1,(hf 1 _ rfl).1,(hf 2 _ rfl).1,(hf 3 _ rfl).1,(hf 4 _ rfl).1,fun j=>by simp⟩,?_,⟨o_,.inl rfl,fun b off x y=>?_,fun k hk=>?_⟩,.inr (.inr (.inr (.inl rfl))),o_⟩
 ·have Jb:∀W,am (S4 g T q wr.heap.size vF) (wr.alloc (.cells #[.slice ca cn cc,.slice pa pn pc,.slice none 0 0,.slice none 0 0,.int .i64 0] 130)) W->am (Sv (Sx g T q) vF) wr W:=fun W hW=>((am.refl (Sv (Sx g T q) vF) wr).alloc _).next hW fun k hk=>by
   rcases hk with h|h|h|h|h
   ·exact .inl (.inl (.inl h))
   ·exact .inl (.inl (.inr (.inl h)))
   ·exact .inl (.inl (.inr (.inr h)))
   ·exact .inr o_
   ·exact .inl (.inr h)
  have Ja:∀W,Strs W (.slice none 0 0) []:=fun W=>⟨none,0,rfl,n_,o_,fun h=>absurd h (Nat.lt_irrefl _)⟩;exact⟨fun W hW=>(Jc W (Jb W hW)).1,fun W hW=>(Jc W (Jb W hW)).2,fun W _=>Ja W,fun W _=>Ja W,hl.1,by show cs.length<=10;omega,Jd.1,⟨Jd.2,(fun x hx=>by cases hx),(fun x hx=>by cases hx)⟩,y_,y_,by show(0:Int)<=0/\(0:Int)<=10;omega⟩
 ·have h8:=hL.by8 b off x y;refine⟨o_,fun e=>?_⟩;rcases e with h|h|h|h|h
  ·exact h8.2 h
  ·omega
  ·omega
  ·omega
  ·have:=(hv b h).1;omega
 ·rcases hk with h|h|h|h|h
  ·omega
  ·omega
  ·omega
  ·omega
  ·have:=(hv k h).2;omega
theorem qW{B:Nat}{nm:ByteArray}{vG:Value}{fa ba:Option Addr}{fn fc bn bc:Nat}{Ja:World}{Q:List FV}{R':List SV}{L:Nat} 
  (hT:aR Ja T [vG,.slice fa fn fc]) (Je:FR (fun k=>k<M) M Ja (.slice fa fn fc) Q) (hQ:Q.length<=10) (Js:dP g a len cap Ja) (Jr:g<T/\T<M/\M<=Ja.heap.size) (hL:Lo g a len (S0 g) T) (hn:nm.size<=100000) (hr:SR B Ja (.slice ba bn bc) R' L) (Ju:1<=R'.length/\L<=1000) (Jv:M<=B):
  ∃va vn vc w17,(Builtin.append_ #[24,24] 24 #[.slice (some ⟨Ja.heap.size,0,none⟩) 1 1,.slice fa fn fc]).run prog (Ja.alloc (.cells #[.string nm,.slice none 0 0,.slice ba bn bc] 43))=.ok (.slice va vn vc) w17/\(w17.cell? ⟨T,1,none⟩=some (.slice fa fn fc)/\w17.frozen? ⟨T,1,none⟩=false)/\aR (w17.setCell ⟨T,1,none⟩ (.slice va vn vc)) T [vG,.slice va vn vc]/\(∃Q',FR (fun k=>k<M) M (w17.setCell ⟨T,1,none⟩ (.slice va vn vc)) (.slice va vn vc) Q'/\Q'.length=Q.length+1)/\dP g a len cap (w17.setCell ⟨T,1,none⟩ (.slice va vn vc))/\am (fun b=>b=T) Ja (w17.setCell ⟨T,1,none⟩ (.slice va vn vc)):=by
 obtain⟨o,Jj⟩:∃o:Obj,o=.cells #[.string nm,.slice none 0 0,.slice ba bn bc] 43:=⟨_,rfl⟩;have hb:Bl Ja (Ja.alloc o):=aD _ _;have Jm:qS ⟨nm,[],R'.map (·.s)⟩:=⟨hn,by show(0:Nat)<=20;omega,(fun p hp=>by cases hp),by show 1<=(R'.map (·.s)).length;simp;omega,by show(R'.map (·.s)).length<=10000;have:=hr.len;simp;omega,hr.ok.body⟩;have Jd:FR (fun k=>k<M) M (Ja.alloc o) (.slice (some ⟨Ja.heap.size,0,none⟩) 1 1) [⟨⟨nm,[],R'.map (·.s)⟩,.slice none 0 0,.slice ba bn bc,R',[],[]⟩]:=by
  refine⟨⟨?_,fun W hW x hx=>?_⟩,fun x hx=>by simp only[List.mem_singleton]at hx;subst hx;exact Jm⟩
  ·rw[Jj];exact World.ownsRow_lit Ja #[.string nm,.slice none 0 0,.slice ba bn bc] 1 Jr.2.2 d_ rfl
  ·simp only[List.mem_singleton]at hx;subst hx;have Jo:am (fun b=>b<B) Ja W:=(hb.tcs (S:=fun b=>b<B)).next hW fun k hk=>by
    rcases hk with hk|hk
    ·exact .inl o_
    ·simp only[Value.ownBlock,Option.some.injEq]at hk;exact .inr o_
   exact⟨⟨none,0,rfl,n_,o_,fun h=>absurd h (Nat.lt_irrefl _)⟩,hr.rd W Jo,rfl⟩
 have Jf:=Je.below hb;obtain⟨a',c',he,Jk,Jn⟩:=au Jf.row.row;simp only[Value.slice.injEq]at he;obtain⟨rfl,Jg,rfl⟩:=he;obtain⟨Jl,w17,Ji,Jh,Jq,Jt⟩:=xO 24 (c:=fc) (m:=fn) Jd fa (Q2:=Q) Jg (fun e=>by rw[Jg];exact Jk e) Jn (fun x hx=>by
  obtain⟨e1,e2,-⟩:=Jf.row.now x hx;obtain⟨_,_,e1,-⟩:=e1;exact⟨by rw[e1];rfl,e2.one⟩) Je.ok (fun W hW=>Je.row.st W ((hb.tcs (S:=fun k=>k<M∨(Value.slice fa fn fc).ownBlock=some k)).next hW fun k hk=>by
   rcases hk with hk|hk
   ·exact .inl (.inl hk)
   ·simp only[Value.ownBlock,Option.some.injEq]at hk;exact .inr o_)) (by simp;omega) (by have:=hb.size;omega)
 obtain⟨va,vn,vc,rfl⟩:∃x y z,Jl=.slice x y z:=by obtain⟨x,y,e⟩:=Jh.shape;exact⟨x,_,y,e⟩
 rw[Jj]at Ji;have Jb:am (fun k=>Ja.heap.size<=k) (Ja.alloc o) w17:=Jq.mono fun k hk=>by simp only[Value.ownBlock,Option.some.injEq]at hk;omega
 have Jc:=(hT.below hb).tcs (by have:=hb.size;omega) Jb o_;have tS:am (fun k=>k=T) w17 (w17.setCell ⟨T,1,none⟩ (.slice va vn vc)):=(am.refl (fun k=>k=T) w17).setCell (p:=⟨T,1,none⟩) rfl _;refine⟨va,vn,vc,w17,Ji,⟨(Jc 1 _ rfl).1,(Jc 1 _ rfl).2⟩,Jc.set 1 _,⟨_,Jh.tcs (tS.mono fun k hk=>by omega) (fun k hk=>hk),i_⟩,?_,?_⟩
 ·have Jp:dP g a len cap w17:=(Js.alloc o).new (hL.mono o_) Jb (fun k hk=>hk);exact Jp.keep tS o_ (fun b off x y e=>by have:=(hL.by8 b off x y).1;omega)
 ·exact((hb.tcs (S:=fun b=>b=T)).next Jb (fun k hk=>.inr hk)).trans tS
theorem CI{GL:Nat}{w W2 W:World}{va:Option Addr}{vn vc:Nat}{Q':List FV}(hg:aR W GL lM)(Jd:w.heap.size<=GL/\GL<W.heap.size)(Ja:FR (fun k=>k<M) M W (.slice va vn vc) Q')(hM:w.heap.size<=M)(hQ:1<=Q'.length/\Q'.length<=20):∃t,TD (fun k=>k<w.heap.size) W (.slice (some ⟨GL,0,none⟩) 4 4) (.slice va vn vc) t:=by
 refine⟨⟨globs4,Q'.map (fun q:FV=>q.f)⟩,fun W' hW=>xP (hg.tcs Jd.2 hW o_),?fs,⟨(by decide:1<=globs4.length),(by decide:globs4.length<=20)⟩,?_,⟨by simp;omega,by simp;omega⟩,?_⟩
 case fs=>
  have h0:=Ja.row.row;rcases h0.2 with⟨-,hz⟩|⟨b,Jc,Je,e,h3,h4,h5⟩
  ·omega
  ·obtain⟨q1,q2,-⟩:=h5;unfold maxLen at q2;refine⟨b,0,Jc,Q',e,q1,q2,rfl,fun W' hW=>?_⟩;have Jb:am (fun k=>k<M) W W':=hW.mono fun k hk=>by omega
   refine⟨fun j u hu=>?_,Ja.row.st W' (Jb.mono fun k hk=>.inl hk)⟩;rw[e]at h0;have:=World.ownsRow.cells (az h0 Jb (fun k hk=>hk)) (g:=b) rfl j u hu
   rwa[gV]at this
 ·intro x hx;simp only[globs4,List.mem_cons,List.not_mem_nil,or_false]at hx;rcases hx with rfl|rfl|rfl|rfl <;> decide
 ·intro f hf;obtain⟨x,hx,rfl⟩:=List.mem_map.1 hf;exact Ja.ok x hx
end
section
variable{w:World}{ps o:List ByteArray}{n:Nat}{s:PS}
def fe(B:Nat)(w:World)(v:Value)(ps:List ByteArray):Prop:=w.ownsRow B 9 1 v ps.length (ps.map Value.string)
theorem xV(w:World)(B:Nat)(hB:B<=w.heap.size):fe B (w.alloc (.cells #[] 9)) (.slice (some ⟨w.heap.size,0,none⟩) 0 0) []:=World.ownsRow_lit w #[] 0 hB d_ rfl
theorem lN{W:World}{B b:Nat}{v:Value}(x:ByteArray)(h:fe B w v ps)(hB:B<=w.heap.size)(hl:ps.length<=2000000)(hW:W=w.alloc (.cells #[.string x] 9))(hb:b=w.heap.size):
  ∃v' w',(Builtin.append_ #[40,40] 40 #[v,.slice (some ⟨b,0,none⟩) 1 1]).run prog W=.ok v' w'/\fe B w' v' (ps++[x])/\am (fun k=>v.ownBlock=some k) w w'/\∀k,v'.ownBlock=some k->v.ownBlock=some k∨w.heap.size<=k:=by
 obtain⟨i0,hi,Je,Jd,Jc⟩:=info_parts gA;have Ja:Bl w W:=by rw[hW];exact r_.alloc n_ _
 have Jb:W.ownsRow w.heap.size 9 1 (.slice (some ⟨b,0,none⟩) 1 1) 1 [.string x]:=by rw[hW,hb];exact World.ownsRow_lit w #[.string x] 1 n_ d_ rfl
 obtain⟨v',w',r1,r2,r3,r4⟩:=bS (P:=prog) (w:=W) B 40 40 9 i0 _ 1 16 underlying40 hi Je Jd Jc rfl d_ v ps.length (ps.map Value.string) (ownB h Ja) (some ⟨b,0,none⟩) 1 1 [.string x] (fun e=>by cases e) rfl (fun ad had j u hu=>by cases had;exact World.ownsRow.cells Jb (g:=b) rfl j u hu) (fun u hu=>by simp at hu;subst hu;rfl) o_ d_ (t_ hB Ja.size);refine⟨v',w',r1,?_,Ja.tcs.trans (am.of_grown r3 (fun k h=>h)),fun k hk=>?_⟩
 ·show World.ownsRow _ _ _ _ _ _ _;rw[l_a,List.map_append];exact r2
 ·rcases r4 k hk with h1|h1
  ·exact .inl h1
  ·exact .inr (t_ Ja.size h1)
theorem j_{T:Nat->To}{a:List ByteArray}{s':PS}(h:Pa T n (.pl o) s (.p a) s'):
  (s.er≠0/\a=o/\s'=s)∨(s.er=0/\o=[]/\aC T [41] s=true/\a=o/\s'=s) ∨
  (s.er=0/\(o≠[]∨aC T [41] s=false)/\((aC T [44] (dj T s).2=false/\a=o++[(dj T s).1]/\s'=(dj T s).2)∨(aC T [44] (dj T s).2=true/\∃m,n=m+1/\Pa T m (.pl (o++[(dj T s).1])) (dj T s).2.ad (.p a) s'))):=by
 cases h using Pa_i with
 | pld n o s h1=>
  by_cases h0:s.er=0
  ·rcases h1 with h1|⟨h1,h2⟩
   ·exact absurd h0 h1
   ·exact .inr (.inl ⟨h0,h1,h2,rfl,rfl⟩)
  ·exact .inl ⟨h0,rfl,rfl⟩
 | ple n o s h1 h2 h3=>exact .inr (.inr ⟨h1,h2,.inl ⟨h3,rfl,rfl⟩⟩)
 | plm n o s r s' h1 h2 h3 h4=>exact .inr (.inr ⟨h1,h2,.inr ⟨h3,_,rfl,h4⟩⟩)
def Ds(G:GT)(w:World)(ps:List ByteArray)(s':PS)(e:Ending)(w':World):Prop:=∃u,e=.returned u/\fe w.heap.size w' u ps/\aN G w' s'/\am (fun k=>k=G.P) w w'
theorem lO{T:Nat->To}(s:PS):(dj T s).2.op=s.op:=(na_op _).trans (ta_op _ _)
theorem CJ(h:o≠[]):(0:Int)<(o.length:Int):=by
 have:o.length≠0:=fun e=>h (List.eq_nil_of_length_eq_zero e)
 omega
theorem qX{G:GT}(hL:ft G.T G.K){s1:PS}(hp:Pa G.T n (.pl []) (bA G.T [40] s) (.p ps) s1)(Xw:ps.length<=1000000)(Xf:eu (n+1) s)(hS:aN G w s):
  Calls prog 52 #[.pointer (some ⟨G.P,0,none⟩)] w (Ds G w ps (cO G.T [41] s1)):=by
 obtain⟨W1,Jx⟩:=q_ (w.alloc (.cells #[] 9));obtain⟨B1,Xd⟩:=q_ w.heap.size;have Xc:Bl w W1:=by rw[Jx];exact r_.alloc n_ _
 have Xk:fe w.heap.size W1 (.slice (some ⟨B1,0,none⟩) 0 0) []:=by rw[Jx,Xd];exact xV w _ n_
 have HO:=ah (d8 hL (hS.below Xc) Xf.bd [40]);have X_:=ah (Xf.on (T:=G.T) [40]);generalize bA G.T [40] s=s0 at*;have HL:=ah hL;have Xg:=ah hp;have Jc:=ah hS.lt;have Xl:=ah Xk;have Xm:=ah Xc;have Xs:=ah Jx;have Xp:=ah Xd;have Xz:=ah Xw;have Jy:Hid (∀W z,aN G W z->z.op=s0.op->Calls prog 56 #[.pointer (some ⟨G.P,0,none⟩),.string (tx [41])] W fun e w'=>e=.returned (.tuple #[])/\aN G w' (cO G.T [41] z)/\am (fun k=>k=G.P) W w'):=fun W z hW hb=>dG HL.out hW (X_.out.of hb).bd [41];clear hp Xf hS hL Xk Xc Jx Xw Xd;go_enter func52,ntmps52;go_upto_region 2 with fail;rw[<-Xs.out,<-Xp.out];go_wp2_with fail;refine HO.out.mono ?_;rintro e w2 ⟨rfl,h2,t2⟩;have Xn:Hid (fe w.heap.size w2 (.slice (some ⟨B1,0,none⟩) 0 0) []):=az Xl.out t2 (fun k hk=>by rw[hk];exact Jc.out.1);have Xv:=ah ((Xm.out.tcs (S:=fun k=>k=G.P)).trans t2);have H2:=ah h2;clear h2 t2 HO Xl Xm Xs Xp;go_wp2;go_loopg[3] n (fun gk u wr=>∃(o:List ByteArray) (z:PS),gk<=n/\Pa G.T gk (.pl o) z (.p ps) s1/\z.op=s0.op/\fe w.heap.size wr u o/\aN G wr z/\am (fun k=>k=G.P) w wr)
 case atStart=>exact⟨[],s0,n_,Xg,rfl,Xn,H2,Xv⟩
 case round=>
  clear Xn H2 Xv Xg;obtain⟨o,z,Xt,hp,Jf,hR,hZ,hT⟩:=hrel;have p3:wr.cell? ⟨G.P,3,none⟩=some (.int .i64 z.er):=(hZ.box 3 _ rfl).1;obtain⟨ua,uc,rfl,-⟩:=au hR;have Yb:o.length<=1000000:=t_ hp.acc Xz;rcases j_ hp with⟨h0,rfl,rfl⟩|⟨h0,Jr,Xj,Xi,rfl⟩|⟨h0,Jz,Xh⟩
  ·have Jb:=ah (And.intro hZ (And.intro hR hT));have Jk:=ah Jf;clear hp Xt hZ hR hT Jf;go_wp2_with fail;have hZ:=Jb.out.1;have Jf:=Jk.out;refine(Jy.out _ _ hZ Jf).mono ?_;rintro e w8 ⟨rfl,h8,t8⟩;have HF:Hid (Ds G w ps (cO G.T [41] s1) (.returned _) w8):=⟨_,rfl,az Jb.out.2.1 t8 (fun k hk=>by rw[hk];exact Jc.out.1),h8,Jb.out.2.2.trans t8⟩;clear h8 t8;go_wp2;go_ret;exact HF
  ·subst Jr;have Xx:=ah Xi;rw[h0]at p3;have HI:=ah (aE hZ [41]);rw[Xj]at HI;clear Xi Xj;have Jb:=ah (And.intro hZ (And.intro hR hT));have Jk:=ah Jf;clear hp Xt hZ hR hT Jf;go_wp2_with fail;refine HI.out.mono ?_;rintro e wq ⟨rfl,Je⟩;have hZ:=Jb.out.1.below Je;have hR:fe w.heap.size wq (.slice ua 0 uc) ps:=by rw[Xx.out];exact ownB Jb.out.2.1 Je
   have hT:=Jb.out.2.2.of_below Je;have Jf:=Jk.out;clear Je;go_wp2_with fail;refine(Jy.out _ _ hZ Jf).mono ?_;rintro e w8 ⟨rfl,h8,t8⟩;have HF:Hid (Ds G w ps (cO G.T [41] s1) (.returned _) w8):=⟨_,rfl,az hR t8 (fun k hk=>by rw[hk];exact Jc.out.1),h8,hT.trans t8⟩;clear h8 t8;go_wp2;go_ret;exact HF
  ·rw[h0]at p3;have HI:=ah (aE hZ [41]);have Ju:(dj G.T z).2.op=s0.op:=(lO z).trans Jf;have Xo:Hid (∀W,aN G W z->Calls prog 49 #[.pointer (some ⟨G.P,0,none⟩),.string (tx [105,110,116])] W fun e w'=>e=.returned (.tuple #[])/\aN G w' (bq G.T [105,110,116] z)/\am (fun k=>k=G.P) W w'):=fun W hW=>ey HL.out hW _;have Xr:Hid (∀W,aN G W (bq G.T [105,110,116] z)->Calls prog 50 #[.pointer (some ⟨G.P,0,none⟩)] W fun e w'=>e=.returned (.string (dj G.T z).1)/\aN G w' (dj G.T z).2/\am (fun k=>k=G.P) W w'):=fun W hW=>dv HL.out hW;have Jb:=ah (And.intro hZ (And.intro hR hT));have Jk:=ah Ju;have J_:=ah Xh;clear hp hZ hR hT Jf Ju Xh;generalize dj G.T z=hz at*;obtain⟨nm,y⟩:=hz;dsimp only at*;obtain⟨wq,Je,Xq⟩:∃wq,Bl wr wq/\(o≠[]∨aC G.T [41] z=false):=⟨wr,r_,Jz⟩;by_cases Jr:o=[]
   ·have Xu:aC G.T [41] z=false:=Jz.resolve_left (fun h=>h Jr);rw[Xu]at HI;clear Jz Xq Xu;clear Je wq;subst Jr;go_wp2_with fail;refine HI.out.mono ?_;rintro e wq ⟨rfl,Je⟩;have hZ:=Jb.out.1.below Je;have hR:fe w.heap.size wq (.slice ua 0 uc) []:=ownB Jb.out.2.1 Je;have hT:=Jb.out.2.2.of_below Je;clear Je HI Jb;go_wp2_with fail;refine(Xo.out _ hZ).mono ?_;rintro e w3 ⟨rfl,h3,t3⟩;have Js:fe w.heap.size w3 (.slice ua 0 uc) []:=az hR t3 (fun k hk=>by rw[hk];exact Jc.out.1);have Jw:=hT.trans t3;clear t3 hZ hR hT;go_wp2_with fail;refine(Xr.out _ h3).mono ?_;rintro e w4 ⟨rfl,h4,t4⟩;have Jm:fe w.heap.size w4 (.slice ua 0 uc) []:=az Js t4 (fun k hk=>by rw[hk];exact Jc.out.1);have Jl:=Jw.trans t4;clear t4 h3 Js Jw;obtain⟨W5,Jp⟩:=q_ (w4.alloc (.cells #[.string nm] 9));obtain⟨B5,Jn⟩:=q_ w4.heap.size;obtain⟨u5,w5,r5,Jh,t5,-⟩:=lN nm Jm Jl.size d_ Jp Jn;have hj:∀k,(Value.slice ua 0 uc).ownBlock=some k->w.heap.size<=k:=fun k hk=>(World.ownsRow.lt Jm k hk).1;have h5:=h4.tcs t5 (fun e=>by have:=hj _ e;have:=Jc.out.1;omega) (fun e=>by have:=hj _ e;have:=Jc.out.2;omega);have Ji:am (fun k=>k=G.P) w w5:=Jl.next t5 (fun x hx=>.inr (hj x hx));have Xe:=ah Jp;have Xa:=ah Jn;have Xb:=ah r5;clear Jp Jn r5 t5 hj h4 Jm Jl;go_wp2_with(at_builtin;rw[<-Xe.out,<-Xa.out];refine ao rfl _ _ _ rfl _ _ u5 w5 rfl rfl Xb.out ?_)
    have Jd:=ah (aE h5 [44]);rcases J_.out with⟨hi,Jt,rfl⟩|⟨hi,k,rfl,Jq⟩
    ·rw[hi]at Jd;refine Jd.out.mono ?_;rintro e w6 ⟨rfl,Ja⟩;have h6:=h5.below Ja;have Jg:fe w.heap.size w6 u5 ps:=by rw[Jt];exact ownB Jh Ja
     have Jj:=Ji.of_below Ja;clear Ja h5 Jh Ji Jd Jt;go_wp2_with fail;refine(Jy.out _ _ h6 Jk).mono ?_;rintro e w8 ⟨rfl,h8,t8⟩;have HF:Hid (Ds G w ps (cO G.T [41] s1) (.returned _) w8):=⟨_,rfl,az Jg t8 (fun k hk=>by rw[hk];exact Jc.out.1),h8,Jj.trans t8⟩;clear h8 t8;go_wp2;go_ret;exact HF
    ·rw[hi]at Jd;refine Jd.out.mono ?_;rintro e w6 ⟨rfl,Ja⟩;have h6:=h5.below Ja;have Jg:fe w.heap.size w6 u5 ([]++[nm]):=ownB Jh Ja;have Jj:=Ji.of_below Ja;obtain⟨⟨h7,t7⟩,q1,f1,Xy⟩:=h6.adv (fQ HL.out h6.wf hi);have Jv:fe w.heap.size (w6.setCell ⟨G.P,1,none⟩ (.int .i64 ((y.i:Int)+1))) u5 ([]++[nm]):=az Jg t7 (fun k hk=>by rw[hk];exact Jc.out.1);have Jo:Hid (∃(o':List ByteArray) (z':PS),k<=n/\Pa G.T k (.pl o') z' (.p ps) s1/\z'.op=s0.op/\fe w.heap.size (w6.setCell ⟨G.P,1,none⟩ (.int .i64 ((y.i:Int)+1))) u5 o'/\aN G (w6.setCell ⟨G.P,1,none⟩ (.int .i64 ((y.i:Int)+1))) z'/\am (fun k=>k=G.P) w (w6.setCell ⟨G.P,1,none⟩ (.int .i64 ((y.i:Int)+1)))):=⟨[]++[nm],y.ad,o_,Jq,Jk,Jv,h7,Jj.trans t7⟩;clear Ja h5 Jh Ji Jd h6 Jg Jj h7 t7 Jv Jq hi J_;go_wp2;go_roundg k
     case measure=>omega
     case rel=>exact Jo
   ·have Ya:=CJ Jr;have Jq:0<o.length:=o_
    have Yc:¬o.length=0:=o_;clear Je Jz Xq Jr;clear wq;have hZ:=Jb.out.1;have hR:=Jb.out.2.1;have hT:=Jb.out.2.2;clear HI Jb;go_wp2_with fail;refine(Xo.out _ hZ).mono ?_;rintro e w3 ⟨rfl,h3,t3⟩;have Js:fe w.heap.size w3 (.slice ua o.length uc) o:=az hR t3 (fun k hk=>by rw[hk];exact Jc.out.1);have Jw:=hT.trans t3;clear t3 hZ hR hT;go_wp2_with fail;refine(Xr.out _ h3).mono ?_;rintro e w4 ⟨rfl,h4,t4⟩;have Jm:fe w.heap.size w4 (.slice ua o.length uc) o:=az Js t4 (fun k hk=>by rw[hk];exact Jc.out.1);have Jl:=Jw.trans t4;clear t4 h3 Js Jw;obtain⟨W5,Jp⟩:=q_ (w4.alloc (.cells #[.string nm] 9));obtain⟨B5,Jn⟩:=q_ w4.heap.size;obtain⟨u5,w5,r5,Jh,t5,-⟩:=lN nm Jm Jl.size o_ Jp Jn;have hj:∀k,(Value.slice ua o.length uc).ownBlock=some k->w.heap.size<=k:=fun k hk=>(World.ownsRow.lt Jm k hk).1;have h5:=h4.tcs t5 (fun e=>by have:=hj _ e;have:=Jc.out.1;omega) (fun e=>by have:=hj _ e;have:=Jc.out.2;omega);have Ji:am (fun k=>k=G.P) w w5:=Jl.next t5 (fun x hx=>.inr (hj x hx));have Xe:=ah Jp;have Xa:=ah Jn;have Xb:=ah r5;clear Jp Jn r5 t5 hj h4 Jm Jl;go_wp2_with(at_builtin;rw[<-Xe.out,<-Xa.out];refine ao rfl _ _ _ rfl _ _ u5 w5 rfl rfl Xb.out ?_)
    have Jd:=ah (aE h5 [44]);rcases J_.out with⟨hi,Jt,rfl⟩|⟨hi,k,rfl,Jq⟩
    ·rw[hi]at Jd;refine Jd.out.mono ?_;rintro e w6 ⟨rfl,Ja⟩;have h6:=h5.below Ja;have Jg:fe w.heap.size w6 u5 ps:=by rw[Jt];exact ownB Jh Ja
     have Jj:=Ji.of_below Ja;clear Ja h5 Jh Ji Jd Jt;go_wp2_with fail;refine(Jy.out _ _ h6 Jk).mono ?_;rintro e w8 ⟨rfl,h8,t8⟩;have HF:Hid (Ds G w ps (cO G.T [41] s1) (.returned _) w8):=⟨_,rfl,az Jg t8 (fun k hk=>by rw[hk];exact Jc.out.1),h8,Jj.trans t8⟩;clear h8 t8;go_wp2;go_ret;exact HF
    ·rw[hi]at Jd;refine Jd.out.mono ?_;rintro e w6 ⟨rfl,Ja⟩;have h6:=h5.below Ja;have Jg:fe w.heap.size w6 u5 (o++[nm]):=ownB Jh Ja;have Jj:=Ji.of_below Ja;obtain⟨⟨h7,t7⟩,q1,f1,Xy⟩:=h6.adv (fQ HL.out h6.wf hi);have Jv:fe w.heap.size (w6.setCell ⟨G.P,1,none⟩ (.int .i64 ((y.i:Int)+1))) u5 (o++[nm]):=az Jg t7 (fun k hk=>by rw[hk];exact Jc.out.1);have Jo:Hid (∃(o':List ByteArray) (z':PS),k<=n/\Pa G.T k (.pl o') z' (.p ps) s1/\z'.op=s0.op/\fe w.heap.size (w6.setCell ⟨G.P,1,none⟩ (.int .i64 ((y.i:Int)+1))) u5 o'/\aN G (w6.setCell ⟨G.P,1,none⟩ (.int .i64 ((y.i:Int)+1))) z'/\am (fun k=>k=G.P) w (w6.setCell ⟨G.P,1,none⟩ (.int .i64 ((y.i:Int)+1)))):=⟨o++[nm],y.ad,o_,Jq,Jk,Jv,h7,Jj.trans t7⟩;clear Ja h5 Jh Ji Jd h6 Jg Jj h7 t7 Jv Jq hi J_;go_wp2;go_roundg k
     case measure=>omega
     case rel=>exact Jo
end
section
variable{W w w' w2:World}{B b:Nat}{vg vf:Value}{t:Tr}{S:Nat->Prop}
def FC(Q:List FV)(W:World):Prop:=∀x∈Q,Strs W x.vp x.f.params/\bJ W x.vb x.f.body
structure TQ (B:Nat) (w:World) (vg vf:Value) (t:Tr):Prop where
 gs:GR B w vg t.globals
 fs:∃Q:List FV,Q.map FV.f=t.funcs/\dY 43 3 (fun k=>k<B∨vg.ownBlock=some k) B w vf Q.length (a_ Q) (FC Q)
 sep:∀k,vg.ownBlock=some k->¬vf.ownBlock=some k
theorem CK{v:Value}{Q:List FV}(h0:W.ownsRow B 43 3 v Q.length (a_ Q))(hp:FC Q W):dM W v (Q.map FV.f):=by
 rcases h0.2 with⟨rfl,hz⟩|⟨g,Jb,Jc,rfl,h3,h4,h5⟩
 ·exact⟨none,0,by rw[List.length_map,hz],by rw[List.length_map,hz];exact n_,o_,fun h=>by rw[List.length_map]at h;omega⟩
 ·have hc:Q.length<=Jb/\Jb<=9223372036854775807:=by
   obtain⟨q1,q2,-⟩:=h5;unfold maxLen at q2;exact⟨q1,q2⟩
  refine⟨some ⟨g,0,none⟩,Jb,by rw[List.length_map],by rw[List.length_map];exact hc.1,hc.2,fun hp'=>⟨g,0,rfl,fun j hj=>?_⟩⟩;rw[List.length_map]at hj;have Ja:∀i,i<3->W.cell? ⟨g,0+j*3+i,none⟩=(a7 Q[j])[i]? := fun i hi=>by
   have hl:(a_ Q).length=Q.length*3:=eI Q;rw[Nat.zero_add,World.ownsRow.cellAt h0 (j*3+i) o_,eJ Q j i hj hi]
  obtain⟨e1,e2⟩:=hp Q[j] (g_ hj);refine⟨Q[j].vp,Q[j].vb,?_,?_,?_⟩
  ·simp only[List.getElem_map];exact⟨Ja 0 o_,Ja 1 o_,Ja 2 o_⟩
  ·simp only[List.getElem_map];exact e1
  ·simp only[List.getElem_map];exact e2
theorem TQ.read(h:TQ B w vg vf t):dL w vg t.globals/\dM w vf t.funcs:=by
 obtain⟨Q,h1,h2⟩:=h.fs;exact⟨pF h.gs,by rw[<-h1];exact CK h2.row h2.now⟩
theorem TQ.tcs(h:TQ B w vg vf t)(ht:am S w w')(hS:∀k,S k->k<B):TQ B w' vg vf t:=by
 obtain⟨Q,h1,h2⟩:=h.fs;exact⟨az h.gs ht hS,⟨Q,h1,az h2.row ht hS,fun W hW=>h2.st W ((ht.mono fun k hk=>.inl (.inl (hS k hk))).trans hW)⟩,h.sep⟩
theorem TQ.below(h:TQ B w vg vf t)(hb:Below w.heap.size w w'):TQ B w' vg vf t:=by
 obtain⟨Q,h1,h2⟩:=h.fs;exact⟨ownB h.gs hb,⟨Q,h1,h2.below hb⟩,h.sep⟩
theorem CL(B:Nat)(w:World):TQ B w (.slice none 0 0) (.slice none 0 0) ⟨[],[]⟩:=
 ⟨World.ownsRow_nil _ _ _ _,⟨[],rfl,dY.nil (fun W x hx=>by cases hx)⟩,fun k hk=>by cases hk⟩
theorem TQ.rg(h:TQ B w vg vf t):∀k,vg.ownBlock=some k->B<=k/\k<w.heap.size:=fun k hk=>World.ownsRow.lt h.gs k hk
theorem TQ.rf(h:TQ B w vg vf t):∀k,vf.ownBlock=some k->B<=k/\k<w.heap.size:=fun k hk=>by
 obtain⟨Q,h1,h2⟩:=h.fs;exact World.ownsRow.lt h2.row k hk
theorem TQ.addF{B1:Nat}{vp vb:Value}(h:TQ B w vg vf t)(f:Fu)(ht:am S w w2)(hS:∀k,S k->k<B)(hB:B<=w.heap.size)(Jr:w.heap.size<=B1)(Js:B1<=w2.heap.size)
  (hp:∀W,am (fun k=>k<B1) w2 W->Strs W vp f.params) (hb:∀W,am (fun k=>k<B1) w2 W->bJ W vb f.body) (hW:W=w2.alloc (.cells #[.string f.name,vp,vb] 43)) (Jn:b=w2.heap.size) (hl:t.funcs.length<=100000):
  ∃v' W',(Builtin.append_ #[24,24] 24 #[vf,.slice (some ⟨b,0,none⟩) 1 1]).run prog W=.ok v' W'/\am (fun k=>vf.ownBlock=some k) w2 W'/\(∀k,v'.ownBlock=some k->vf.ownBlock=some k∨w2.heap.size<k) /\
   ∀We,am (fun k=>w.heap.size<=k/\k<B1) W' We->TQ B We vg v' ⟨t.globals,t.funcs++[f]⟩:=by
 obtain⟨Q,hQ,hD⟩:=h.fs;have Jb:Bl w2 W:=by rw[hW];exact r_.alloc n_ _
 have Jp:W.heap.size=w2.heap.size+1:=by rw[hW];simp
 have Jd:W.ownsRow w2.heap.size 43 3 (.slice (some ⟨b,0,none⟩) 1 1) 1 [.string f.name,vp,vb]:=by rw[hW,Jn];exact World.ownsRow_lit w2 #[.string f.name,vp,vb] 1 n_ d_ rfl
 have h2:=h.tcs ht hS;obtain⟨i0,hi,Ji,Jl,Jj⟩:=info_parts iL;have Jf:am S w W:=ht.of_below Jb;have Jq:Q.length=t.funcs.length:=by rw[<-hQ,List.length_map]
 have Jk:∀v,(∃ps,Strs W v ps)->v.oneCell'=true:=fun v hv=>by obtain⟨ps,a,c,rfl,-⟩:=hv;rfl
 have Jg:∀v,(∃ps,bJ W v ps)->v.oneCell'=true:=fun v hv=>by obtain⟨ps,a,c,rfl,-⟩:=hv;rfl
 have tW:am (fun k=>k<B1) w2 W:=Jb.tcs;obtain⟨v',W',r1,r2,r3,r4⟩:=bS (P:=prog) (w:=W) B 24 24 43 i0 _ 3 64 underlying24 hi Ji Jl Jj rfl d_ vf Q.length (a_ Q) (az hD.row Jf hS) (some ⟨b,0,none⟩) 1 1 [.string f.name,vp,vb] (fun e=>by cases e) rfl (fun ad had j u hu=>by cases had;exact World.ownsRow.cells Jd (g:=b) rfl j u hu) (fun u hu=>by
  simp only[List.mem_cons,List.not_mem_nil,or_false]at hu;rcases hu with rfl|rfl|rfl
  ·rfl
  ·exact Jk _ ⟨_,hp W tW⟩
  ·exact Jg _ ⟨_,hb W tW⟩) o_ d_ (t_ hB (t_ ht.size Jb.size))
 have hT:am (fun k=>vf.ownBlock=some k) W W':=am.of_grown r3 (fun k hk=>hk);have Jc:=h.rf;have Je:=h.rg;have Jo:=ht.size;have Ja:∀k,v'.ownBlock=some k->vf.ownBlock=some k∨w2.heap.size<k:=fun k hk=>by
  rcases r4 k hk with h1|h1
  ·exact .inl h1
  ·exact .inr o_
 refine⟨v',W',r1,(Jb.tcs).trans hT,Ja,fun We hWe=>?_⟩;have Jm:∀k,vg.ownBlock=some k->¬(vf.ownBlock=some k):=h.sep;have tA:am (fun k=>k<B∨vf.ownBlock=some k) w W':=(Jf.mono fun k hk=>.inl (hS k hk)).trans (hT.mono fun k hk=>.inr hk);have tB:am (fun k=>k<B∨vf.ownBlock=some k) w We:=tA.next hWe fun k hk=>.inr hk.1;have Jh:GR B We vg t.globals:=cV h.gs tB (fun k hk e=>by
  rcases e with e|e
  ·have:=(Je k hk).1;omega
  ·exact Jm k hk e)
 refine⟨Jh,⟨Q++[⟨f,vp,vb,[],[],[]⟩],by rw[List.map_append,hQ];rfl,?_,fun V hV x hx=>?_⟩,fun k hk e=>?_⟩
 ·have e1:a_ (Q++[⟨f,vp,vb,[],[],[]⟩])=a_ Q++[.string f.name,vp,vb]:=by rw[gM];rfl
  rw[l_a,e1];refine cV r2 hWe (fun k hk e=>?_);rcases Ja k hk with h1|h1
  ·have:=(Jc k h1).2;omega
  ·omega
 ·rcases List.mem_append.1 hx with hx|hx
  ·exact hD.st V ((tB.mono fun k hk=>hk.elim (fun e=>.inl (.inl e)) .inr).next hV fun k hk=>by
    rcases hk with hk|hk
    ·exact .inl (.inl hk)
    ·rcases Ja k hk with h1|h1
     ·exact .inl (.inr h1)
     ·exact .inr o_) x hx
  ·have tV:am (fun k=>k<B1) w2 V:=((tW.trans (hT.mono fun k hk=>by have:=(Jc k hk).2;omega)).trans (hWe.mono fun k hk=>hk.2)).next hV fun k hk=>by
    rcases hk with(hk|hk)|hk
    ·exact .inl o_
    ·have:=(Je k hk).2;exact .inl o_
    ·rcases Ja k hk with h1|h1
     ·have:=(Jc k h1).2;exact .inl o_
     ·exact .inr o_
   simp only[List.mem_singleton]at hx;subst hx;exact⟨hp V tV,hb V tV⟩
 ·rcases Ja k e with h1|h1
  ·exact h.sep k hk h1
  ·have:=(Je k hk).2;omega
theorem TQ.addG(h:TQ B w vg vf t)(g:Gl)(ht:am S w w2)(hS:∀k,S k->k<B)(hB:B<=w.heap.size)
  (hW:W=w2.alloc (.cells #[.string g.name,.int .i64 g.size] 74)) (Jj:b=w2.heap.size) (hl:t.globals.length<=100000):
  ∃v' W',(Builtin.append_ #[23,23] 23 #[vg,.slice (some ⟨b,0,none⟩) 1 1]).run prog W=.ok v' W'/\am (fun k=>vg.ownBlock=some k) w2 W'/\(∀k,v'.ownBlock=some k->vg.ownBlock=some k∨w2.heap.size<k) /\
   ∀We,am (fun k=>w.heap.size<=k/\k<=w2.heap.size) W' We->TQ B We v' vf ⟨t.globals++[g],t.funcs⟩:=by
 obtain⟨Q,hQ,hD⟩:=h.fs;have Jb:Bl w2 W:=by rw[hW];exact r_.alloc n_ _
 have Jl:W.heap.size=w2.heap.size+1:=by rw[hW];simp
 have Jc:W.ownsRow w2.heap.size 74 2 (.slice (some ⟨b,0,none⟩) 1 1) 1 [.string g.name,.int .i64 g.size]:=by rw[hW,Jj];exact World.ownsRow_lit w2 #[.string g.name,.int .i64 g.size] 1 n_ d_ rfl
 obtain⟨i0,hi,Jf,Ji,Jg⟩:=info_parts iR;have Je:am S w W:=ht.of_below Jb;obtain⟨v',W',r1,r2,r3,r4⟩:=bS (P:=prog) (w:=W) B 23 23 74 i0 _ 2 24 underlying23 hi Jf Ji Jg rfl d_ vg t.globals.length (bN t.globals) (az h.gs Je hS) (some ⟨b,0,none⟩) 1 1 [.string g.name,.int .i64 g.size] (fun e=>by cases e) rfl (fun ad had j u hu=>by cases had;exact World.ownsRow.cells Jc (g:=b) rfl j u hu) (fun u hu=>by
  simp only[List.mem_cons,List.not_mem_nil,or_false]at hu;rcases hu with rfl|rfl
  ·rfl
  ·rfl) o_ d_ (t_ hB (t_ ht.size Jb.size))
 have hT:am (fun k=>vg.ownBlock=some k) W W':=am.of_grown r3 (fun k hk=>hk);have Jd:=h.rf;have Jh:=h.rg;have Jk:=ht.size;have Ja:∀k,v'.ownBlock=some k->vg.ownBlock=some k∨w2.heap.size<k:=fun k hk=>by
  rcases r4 k hk with h1|h1
  ·exact .inl h1
  ·exact .inr o_
 refine⟨v',W',r1,(Jb.tcs).trans hT,Ja,fun We hWe=>?_⟩;have tA:am (fun k=>k<B∨vg.ownBlock=some k) w W':=(Je.mono fun k hk=>.inl (hS k hk)).trans (hT.mono fun k hk=>.inr hk);have tB:am (fun k=>k<B∨vg.ownBlock=some k) w We:=tA.next hWe fun k hk=>.inr hk.1;refine⟨?_,⟨Q,hQ,cV hD.row tB (fun k hk e=>?_),fun V hV=>?_⟩,fun k hk e=>?_⟩
 ·have e1:bN (t.globals++[g])=bN t.globals++[.string g.name,.int .i64 g.size]:=by simp[bN,qc]
  show World.ownsRow _ _ _ _ _ _ _;rw[l_a,e1];refine cV r2 hWe (fun k hk e=>?_);rcases Ja k hk with h1|h1
  ·have:=(Jh k h1).2;omega
  ·omega
 ·rcases e with e|e
  ·have:=(Jd k hk).1;omega
  ·exact h.sep k e hk
 ·exact hD.st V ((tB.mono fun k hk=>.inl hk).next hV fun k hk=>by
   rcases hk with(hk|hk)|hk
   ·exact .inl (.inl (.inl hk))
   ·rcases Ja k hk with h1|h1
    ·exact .inl (.inl (.inr h1))
    ·exact .inr o_
   ·exact .inl (.inr hk))
 ·rcases Ja k hk with h1|h1
  ·exact h.sep k h1 e
  ·have:=(Jd k e).2;omega
end
section
variable{R:List SV}{S:Nat->Prop}{B b n cap:Nat}{w w':World}{v:Value}{Q:List FV}
theorem mS:∀(R:List SV) (i c:Nat) (u:Value) (x':SV) (hi:i<R.length),c<6->aY x'=(aY R[i]).set c u->bz (R.set i x')=(bz R).set (i*6+c) u
 | x::l,0,c,u,x',_,hc,hx=>by
  have h6:(aY x).length=6:=rfl;show aY x'++bz l=(aY x++bz l).set (0*6+c) u;rw[List.set_append_left _ _ o_];have:aY x'=(aY x).set c u:=hx;rw[this];simp
 | x::l,i+1,c,u,x',hi,hc,hx=>by
  have h6:(aY x).length=6:=rfl;show aY x++bz (l.set i x')=(aY x++bz l).set ((i+1)*6+c) u;rw[List.set_append_right _ _ o_,mS l i c u x' (by simpa using hi) hc hx];congr 2;omega
theorem mT:∀(Q:List FV) (i c:Nat) (u:Value) (x':FV) (hi:i<Q.length),c<3->a7 x'=(a7 Q[i]).set c u->a_ (Q.set i x')=(a_ Q).set (i*3+c) u
 | x::l,0,c,u,x',_,hc,hx=>by
  have h6:(a7 x).length=3:=rfl;show a7 x'++a_ l=(a7 x++a_ l).set (0*3+c) u;rw[List.set_append_left _ _ o_];have:a7 x'=(a7 x).set c u:=hx;rw[this];simp
 | x::l,i+1,c,u,x',hi,hc,hx=>by
  have h6:(a7 x).length=3:=rfl;show a7 x++a_ (l.set i x')=(a7 x++a_ l).set ((i+1)*3+c) u;rw[List.set_append_right _ _ o_,mT l i c u x' (by simpa using hi) hc hx];congr 2;omega
def D3(R:List SV):Prop:=∀x∈R,bI x.s.e 5000/\bI x.s.f 5000/\x.s.name.size<=100000
theorem DX.two(h:DX R):D3 R:=fun x hx=>⟨(h x hx).1.more o_,(h x hx).2.1.more o_,(h x hx).2.2⟩
structure qY (f:Fu):Prop where
 nm:f.name.size<=100000
 pl:f.params.length<=30
 pn:∀p∈f.params,p.size<=100000
 bu:f.body.length<=20000
 st:∀s∈f.body,bI s.e 5000/\bI s.f 5000/\s.name.size<=100000
theorem qS.two{f:Fu}(h:qS f):qY f:=⟨h.nm,by have:=h.pl;omega,h.pn,by have:=h.bu;omega,fun s hs=>⟨(h.st s hs).1.more o_,(h.st s hs).2.1.more o_,(h.st s hs).2.2⟩⟩
structure BR (S:Nat->Prop) (B:Nat) (w:World) (v:Value) (R:List SV):Prop where
 row:dY 46 6 S B w v R.length (bz R) (qN R)
 ok:D3 R
theorem BR.below(h:BR S B w v R)(hb:Below w.heap.size w w'):BR S B w' v R:=⟨h.row.below hb,h.ok⟩
theorem BR.rng(h:BR S B w v R):∀k,v.ownBlock=some k->B<=k/\k<w.heap.size:=fun k hk=>World.ownsRow.lt h.row.row k hk
theorem BR.put(h:BR S B w (.slice (some ⟨b,0,none⟩) n cap) R)(i c:Nat)(u:Value)(x':SV)(hi:i<R.length)(hc:c<6)(hx:aY x'=(aY R[i]).set c u)(hp:∀W,am (fun k=>S k∨k=b) w W->ax W x'.ve x'.s.e/\ax W x'.vf x'.s.f)(ho:bI x'.s.e 5000/\bI x'.s.f 5000/\x'.s.name.size<=100000):
  BR S B (w.setCell ⟨b,i*6+c,none⟩ u) (.slice (some ⟨b,0,none⟩) n cap) (R.set i x'):=by
 have hn:n=R.length:=by
  obtain⟨_,_,e,-⟩:=au h.row.row;simp at e;exact e.2.1
 subst hn;have h1:=(h.row.row.stored (i*6+c) u).1;refine⟨⟨by rw[List.length_set,mS R i c u x' hi hc hx];exact h1,fun W hW x hm=>?_⟩,fun x hm=>?_⟩
 ·have ht:am (fun k=>S k∨k=b) w W:=((am.refl (fun k=>S k∨k=b) w).setCell (p:=⟨b,i*6+c,none⟩) (.inr rfl) u).trans (hW.mono fun k hk=>hk.imp id fun e=>by simp[Value.ownBlock]at e;exact e.symm);rcases List.mem_or_eq_of_mem_set hm with hm|rfl
  ·exact h.row.st W (ht.mono fun k hk=>hk.imp id fun e=>by rw[e];rfl) x hm
  ·exact hp W ht
 ·rcases List.mem_or_eq_of_mem_set hm with hm|rfl
  ·exact h.ok x hm
  ·exact ho
structure F2 (S:Nat->Prop) (B:Nat) (w:World) (v:Value) (Q:List FV):Prop where
 row:dY 43 3 S B w v Q.length (a_ Q) (A4 Q)
 ok:∀x∈Q,qY x.f
theorem F2.tcs(h:F2 S B w v Q)(ht:am S w w')(hS:∀k,S k->k<B):F2 S B w' v Q:=⟨h.row.tcs ht hS,h.ok⟩
theorem F2.less{S':Nat->Prop}(h:F2 S B w v Q)(hs:∀k,S' k->S k):F2 S' B w v Q:=⟨h.row.less hs,h.ok⟩
theorem F2.rng(h:F2 S B w v Q):∀k,v.ownBlock=some k->B<=k/\k<w.heap.size:=fun k hk=>World.ownsRow.lt h.row.row k hk
theorem F2.funcs(h:F2 S B w v Q)(hS:∀k,S k->k<B):∀W,am S w W->dM W v (Q.map (fun q:FV=>q.f)):=fun W hW=>
 xN (az h.row.row hW hS) (h.row.st W (hW.mono fun k hk=>.inl hk))
theorem F2.put(h:F2 S B w (.slice (some ⟨b,0,none⟩) n cap) Q)(i c:Nat)(u:Value)(x':FV)(hi:i<Q.length)(hc:c<3)(hx:a7 x'=(a7 Q[i]).set c u)(hp:∀W,am (fun k=>S k∨k=b) w W->Strs W x'.vp x'.f.params/\xM W x'.vb x'.R/\x'.R.map (·.s)=x'.f.body)(ho:qY x'.f):
  F2 S B (w.setCell ⟨b,i*3+c,none⟩ u) (.slice (some ⟨b,0,none⟩) n cap) (Q.set i x'):=by
 have hn:n=Q.length:=by
  obtain⟨_,_,e,-⟩:=au h.row.row;simp at e;exact e.2.1
 subst hn;have h1:=(h.row.row.stored (i*3+c) u).1;refine⟨⟨by rw[List.length_set,mT Q i c u x' hi hc hx];exact h1,fun W hW x hm=>?_⟩,fun x hm=>?_⟩
 ·have ht:am (fun k=>S k∨k=b) w W:=((am.refl (fun k=>S k∨k=b) w).setCell (p:=⟨b,i*3+c,none⟩) (.inr rfl) u).trans (hW.mono fun k hk=>hk.imp id fun e=>by simp[Value.ownBlock]at e;exact e.symm);rcases List.mem_or_eq_of_mem_set hm with hm|rfl
  ·exact h.row.st W (ht.mono fun k hk=>hk.imp id fun e=>by rw[e];rfl) x hm
  ·exact hp W ht
 ·rcases List.mem_or_eq_of_mem_set hm with hm|rfl
  ·exact h.ok x hm
  ·exact ho
end
section
variable{S:Nat->Prop}{w:World}{vg vf:Value}{t:Tr}
structure TW (S:Nat->Prop) (w:World) (vg vf:Value) (t:Tr):Prop where
 gs:∀W,am S w W->dL W vg t.globals
 fs:∀W,am S w W->dM W vf t.funcs
 gl:t.globals.length<=30
 gn:∀x∈t.globals,x.name.size<=100000
 fl:t.funcs.length<=20
 fp:1<=t.funcs.length
 ok:∀f∈t.funcs,qY f
theorem TD.tw(h:TD S w vg vf t):TW S w vg vf t:=⟨h.gs,h.funcs,by have:=h.gl.2;omega,h.gn,h.fl.2,h.fl.1,fun f hf=>(h.ok f hf).two⟩
theorem TW.tcs{w':World}(h:TW S w vg vf t)(ht:am S w w'):TW S w' vg vf t:=⟨fun W hW=>h.gs W (ht.trans hW),fun W hW=>h.fs W (ht.trans hW),h.gl,h.gn,h.fl,h.fp,h.ok⟩
theorem TW.small(h:TW S w vg vf t):i6 t/\FH t:=by
 refine⟨⟨by have:=h.gl;omega,by have:=h.fl;omega,fun f hf=>?_⟩,⟨⟨by have:=h.gl;omega,fun x hx=>by have:=h.gn x hx;omega⟩,⟨by have:=h.fl;omega,fun f hf=>?_⟩⟩⟩
 ·have k:=h.ok f hf;refine⟨by have:=k.pl;omega,by have:=k.bu;omega,fun s hs=>?_⟩;obtain⟨h1,h2,-⟩:=k.st s hs;exact⟨by have:=h1.1;omega,by have:=h2.1;omega⟩
 ·have k:=h.ok f hf;refine⟨by have:=k.nm;omega,⟨by have:=k.pl;omega,fun p hp=>by have:=k.pn p hp;omega⟩,⟨by have:=k.bu;omega,fun s hs=>?_⟩⟩;obtain⟨h1,h2,h3⟩:=k.st s hs;exact⟨o_,⟨by have:=h1.1;omega,fun n hn=>by have:=h1.2 n hn;omega⟩,⟨by have:=h2.1;omega,fun n hn=>by have:=h2.2 n hn;omega⟩⟩
end
section
variable{B M R N:Nat}{w w0 W W':World}{G:GT}{vg vf:Value}{z z':PS}{nm:ByteArray}{k:Int}
theorem SQ.stmts{v:Value}{l:List St}(h:SQ B w v l):∀W,am (fun k=>k<B) w W->bJ W v l:=fun W hW=>by
 obtain⟨R,rfl,h2⟩:=h.ex;exact xg (az h2.row hW (fun k hk=>hk)) (h2.st W (hW.mono fun k hk=>.inl hk))
structure TB (G:GT) (w0:World) (M R:Nat) (vg vf:Value) (W:World) (z:PS):Prop where
 st:aN G W z
 bx:aR W M [vg,vf]
 rs:aR W R [.slice none 0 0,.slice none 0 0]
 t:am (fun k=>k=G.P) w0 W
 m:w0.heap.size<=M/\M<W.heap.size/\w0.heap.size<=R/\R<W.heap.size/\M≠R
 hl:G.P<w0.heap.size/\G.bT<w0.heap.size
theorem TB.below(h:TB G w0 M R vg vf W z)(hb:Below W.heap.size W W'):TB G w0 M R vg vf W' z:=
 ⟨h.st.below hb,h.bx.below hb,h.rs.below hb,h.t.of_below hb,by have:=h.m;have:=hb.size;omega,h.hl⟩
theorem TB.step(h:TB G w0 M R vg vf W z)(hz:aN G W' z')(ht:am (fun k=>k=G.P) W W'):TB G w0 M R vg vf W' z':=
 ⟨hz,h.bx.tcs h.m.2.1 ht (fun e=>by have:=h.m;have:=h.hl;omega),h.rs.tcs h.m.2.2.2.1 ht (fun e=>by have:=h.m;have:=h.hl;omega),h.t.trans ht,by have:=h.m;have:=ht.size;omega,h.hl⟩
theorem qZ(hZ:aN G w z)(hW:W=(w.alloc (.cells #[vg,vf] 26)).alloc (.cells #[.slice none 0 0,.slice none 0 0] 26))(hM:M=w.heap.size)(hR:R=w.heap.size+1):TB G w M R vg vf W z:=by
 have Jb:Bl w (w.alloc (.cells #[vg,vf] 26)):=aD _ _;have Ja:Below (w.alloc (.cells #[vg,vf] 26)).heap.size (w.alloc (.cells #[vg,vf] 26)) W:=by rw[hW];exact r_.alloc n_ _
 have hx:aR (w.alloc (.cells #[vg,vf] 26)) M [vg,vf]:=by rw[hM];exact aJ w #[vg,vf] _ (by show 2<=1000;omega)
 have hy:aR W R [.slice none 0 0,.slice none 0 0]:=by
  have e:R=(w.alloc (.cells #[vg,vf] 26)).heap.size:=by rw[hR];simp
  rw[hW,e];exact aJ _ #[.slice none 0 0,.slice none 0 0] _ (by show 2<=1000;omega)
 have hs:W.heap.size=w.heap.size+2:=by rw[hW];simp
 exact⟨(hZ.below Jb).below Ja,hx.below Ja,hy,((am.refl _ _).of_below Jb).of_below Ja,o_,hZ.lt⟩
def n8(G:GT)(B:Nat)(w:World)(t':Tr)(s':PS)(e:Ending)(w':World):Prop:=∃vg' vf',e=.returned (.agg #[vg',vf'])/\TQ B w' vg' vf' t'/\aN G w' s'/\am (fun k=>k=G.P∨B<=k) w w'
theorem TB.fin{We:World}{Jb Ja:Value}{t':Tr}{S:Nat->Prop}(h:TB G w0 M R vg vf W z)(hB:B<=w0.heap.size)(Jd:G.P<B/\G.bT<B)(ht:am S W W')(hS:∀k,S k->B<=k)(hq:∀We,am (fun k=>k=M∨k=R) W' We->TQ B We Jb Ja t')(hE:am (fun k=>k=M∨k=R) W' We):
  n8 G B w0 t' z (.returned (.agg #[Jb,Ja])) We:=by
 have hm:=h.m;have Jc:=ht.size;refine⟨_,_,rfl,hq _ hE,(h.st.tcs ht (fun e=>by have:=hS _ e;omega) (fun e=>by have:=hS _ e;omega)).tcs hE (fun e=>by omega) (fun e=>by omega),?_⟩;exact((h.t.mono (fun k hk=>.inl hk)).trans (ht.mono fun k hk=>.inr (hS k hk))).trans (hE.mono fun k hk=>.inr o_)
structure yR (G:GT) (w0:World) (M R N:Nat) (vg vf:Value) (nm:ByteArray) (k:Int) (W:World) (z:PS):Prop where
 tb:TB G w0 M R vg vf W z
 nx:aR W N [.string nm,.int .i64 k]
 n:w0.heap.size<=N/\N<W.heap.size/\N≠M/\N≠R
theorem sF(h:TB G w0 M R vg vf w z)(hW:W=w.alloc (.cells #[.string nm,.int .i64 0] 74))(hN:N=w.heap.size):yR G w0 M R N vg vf nm 0 W z:=by
 have hb:Bl w W:=by rw[hW];exact r_.alloc n_ _
 have hx:aR W N [.string nm,.int .i64 0]:=by rw[hW,hN];exact aJ w #[.string nm,.int .i64 0] _ (by show 2<=1000;omega)
 have hs:W.heap.size=w.heap.size+1:=by rw[hW];simp
 exact⟨h.below hb,hx,by have:=h.m;have:=h.t.size;omega⟩
theorem yR.below(h:yR G w0 M R N vg vf nm k W z)(hb:Below W.heap.size W W'):yR G w0 M R N vg vf nm k W' z:=
 ⟨h.tb.below hb,h.nx.below hb,by have:=h.n;have:=hb.size;omega⟩
theorem yR.step(h:yR G w0 M R N vg vf nm k W z)(hz:aN G W' z')(ht:am (fun k=>k=G.P) W W'):yR G w0 M R N vg vf nm k W' z':=
 ⟨h.tb.step hz ht,h.nx.tcs h.n.2.1 ht (fun e=>by have:=h.n;have:=h.tb.hl;omega),by have:=h.n;have:=ht.size;omega⟩
theorem yR.put(h:yR G w0 M R N vg vf nm k W z)(k':Int)(hW:W'=W.setCell ⟨N,1,none⟩ (.int .i64 k')):yR G w0 M R N vg vf nm k' W' z:=by
 have ht:am (fun k=>k=N) W W':=by rw[hW];exact(am.refl (fun k=>k=N) W).setCell (p:=⟨N,1,none⟩) rfl _
 have hn:=h.n;have hm:=h.tb.m;have hl:=h.tb.hl;have hs:=ht.size;have Ja:=h.tb.st;exact⟨⟨Ja.tcs ht (fun e=>by omega) (fun e=>by omega),h.tb.bx.tcs hm.2.1 ht (fun e=>by omega),h.tb.rs.tcs hm.2.2.2.1 ht (fun e=>by omega),h.tb.t.next ht (fun k hk=>.inr o_),o_,hl⟩,by rw[hW];exact h.nx.set 1 _,o_⟩
theorem CM(hL:ft G.T G.K){n:Nat}{s:PS}{t:Tr}{ps:List ByteArray}{s1:PS}{b:List St}{s2:PS}(hi:aC G.T [40] (dj G.T s).2=true)(hp:Pa G.T n (.pl []) (bA G.T [40] (dj G.T s).2) (.p ps) s1)(hb:Pa G.T n .bl (cO G.T [41] s1) (.s b) s2)(Jo:ps.length<=1000000/\fJ b<=1000000)(Jy:eu (n+1) s)(hS:aN G w s)(hq:TQ B w vg vf t)(hB:B<=w.heap.size)(Ja:G.P<B/\G.bT<B)(Jx:t.globals.length<=100000/\t.funcs.length<=100000):
  Calls prog 24 #[.pointer (some ⟨G.P,0,none⟩),.agg #[vg,vf]] w (n8 G B w (ci t (.inr ⟨(dj G.T s).1,ps,b⟩)) s2):=by
 obtain⟨ga,gc,Jq,-⟩:=au hq.gs;obtain⟨fa,fn,fc,Xj⟩:∃fa fn fc,vf=.slice fa fn fc:=by
  obtain⟨Q,h1,h2⟩:=hq.fs;obtain⟨a,c,e,-⟩:=au h2.row;exact⟨_,_,_,e⟩
 obtain⟨gn,Jw⟩:=q_ t.globals.length;rw[<-Jw]at Jq;subst Jq Xj;clear Jw;obtain⟨W1,Ji⟩:=q_ ((w.alloc (.cells #[.slice ga gn gc,.slice fa fn fc] 26)).alloc (.cells #[.slice none 0 0,.slice none 0 0] 26));obtain⟨M,hM⟩:=q_ w.heap.size;obtain⟨R,hR⟩:=q_ (w.heap.size+1);have h1:=qZ hS Ji hM hR;have Xc:Hid (∀W,aN G W s->Calls prog 49 #[.pointer (some ⟨G.P,0,none⟩),.string (tx [105,110,116])] W fun e w'=>e=.returned (.tuple #[])/\aN G w' (bq G.T [105,110,116] s)/\am (fun k=>k=G.P) W w'):=fun W hW=>ey hL hW _;have Xl:Hid (∀W,aN G W (bq G.T [105,110,116] s)->Calls prog 50 #[.pointer (some ⟨G.P,0,none⟩)] W fun e w'=>e=.returned (.string (dj G.T s).1)/\aN G w' (dj G.T s).2/\am (fun k=>k=G.P) W w'):=fun W hW=>dv hL hW;have Jf:eu (n+1) (dj G.T s).2:=Jy.of (lO s);obtain⟨HL,HQ,HB⟩:=h3 hL hq (And.intro hB (And.intro Ja Jx));generalize dj G.T s=hz at*;obtain⟨nm,y⟩:=hz;dsimp only at*;have Jp:(cO G.T [41] s1).op=y.op:=by rw[cl_op,hp.op,on_op];omega
 have Ju:Hid (∀W,aN G W y->Calls prog 52 #[.pointer (some ⟨G.P,0,none⟩)] W (Ds G W ps (cO G.T [41] s1))):=fun W hW=>qX HL.out hp Jo.1 Jf hW;have Xf:Hid (∀W,aN G W (cO G.T [41] s1)->Calls prog 53 #[.pointer (some ⟨G.P,0,none⟩)] W (pJ G W b s2)):=fun W hW=>(xU HL.out n).2.1 W _ b s2 hb Jo.2 ((Jf.of Jp).le (Nat.le_succ n)) hW;clear Jp;obtain⟨Xm,HM,HR⟩:=h3 Ji hM hR;clear Ji hM hR hL hq hB Ja Jx Jy hS Jf hp hb Jo;go_enter func24,ntmps24;go_upto_region 1 with fail;rw[<-Xm.out,<-HR.out,<-HM.out];go_wp2_with fail;refine(Xc.out _ h1.st).mono ?_;rintro e w2 ⟨rfl,z2,t2⟩;have h2:=h1.step z2 t2;clear z2 t2 h1;go_wp2_with fail;refine(Xl.out _ h2.st).mono ?_;rintro e w3 ⟨rfl,z3,t3⟩;have h3:=h2.step z3 t3;clear z3 t3 h2;go_wp2_with fail;refine(aE h3.st [40]).mono ?_;rintro e w4 ⟨rfl,b4⟩;rw[hi];have h4:=h3.below b4;clear b4 h3;go_wp2_with fail;refine(Ju.out _ h4.st).mono ?_;rintro e w5 ⟨vp,rfl,Jg,z5,t5⟩;have Js:=h4.m;have h5:=h4.step z5 t5;have Xo:∃pa pn pc,vp=.slice pa pn pc:=by
  obtain⟨a,c,e,-⟩:=au Jg;exact⟨_,_,_,e⟩
 obtain⟨pa,pn,pc,rfl⟩:=Xo;have Xn:=ah t5;clear z5 t5 Ju;obtain⟨Jz,Jl⟩:=h2 Jg Js;clear Jg Js;go_wp2_with fail;refine(Xf.out _ h5.st).mono ?_;rintro e w6 ⟨vb,rfl,Jd,z6,t6⟩;have h6:=h5.step z6 t6;obtain⟨ba,bc,rfl⟩:=Jd.shape;obtain⟨bn,Jt⟩:=q_ b.length;rw[<-Jt]at Jd⊢;clear Jt;obtain⟨W7,Jm⟩:=q_ (w6.alloc (.cells #[.string nm,.slice pa pn pc,.slice ba bn bc] 43));obtain⟨B7,Jk⟩:=q_ w6.heap.size;have Ja:=HB.out.2.1;have hB:=HB.out.1;have Jh:=h4.t.size;have Jn:=Xn.out.size;have Jr:=t6.size;obtain⟨v8,W8,r8,t8,o8,q8⟩:=HQ.out.addF (f:=⟨nm,ps,b⟩) (B1:=w4.heap.size) (vp:=.slice pa pn pc) (vb:=.slice ba bn bc) h6.t (fun k hk=>by rw[hk];exact Ja.1) hB Jh (t_ Jn Jr)
  (fun W hW=>e_ (az Jz.out (((t6.mono (fun k hk=>by rw[hk];exact l_ Ja.1 (t_ hB Jh))).trans hW):am (fun k=>k<w4.heap.size) w5 W) (fun k hk=>hk)))
  (fun W hW=>Jd.stmts W (hW.mono fun k hk=>l_ hk Jn)) Jm Jk HB.out.2.2.2
 have Jc:=HQ.out.rf;have Jb:Hid (∀We,am (fun k=>k=M∨k=R) W8 We->n8 G B w (ci t (.inr ⟨nm,ps,b⟩)) s2 (.returned (.agg #[.slice ga gn gc,v8])) We):=fun We hE=>h6.fin hB Ja t8 (fun k hk=>(Jc k hk).1) (fun We hE=>q8 We (hE.mono fun k hk=>by have:=Jl.out;omega)) hE;have Je:aR W8 M [.slice ga gn gc,.slice fa fn fc]:=h6.bx.tcs h6.m.2.1 t8 (fun e=>by have:=(Jc _ e).2;have:=Jl.out;omega);have Jj:aR W8 R [.slice none 0 0,.slice none 0 0]:=h6.rs.tcs h6.m.2.2.2.1 t8 (fun e=>by have:=(Jc _ e).2;have:=Jl.out;omega);obtain⟨ua,un,uc,rfl⟩:∃ua un uc,v8=.slice ua un uc:=by
  obtain⟨Q,-,h2⟩:=(q8 W8 (am.refl _ _)).fs;obtain⟨a,c,e,-⟩:=au h2.row;exact⟨_,_,_,e⟩
 have Jv:M≠R:=h6.m.2.2.2.2;have Xh:=Je 0 _ rfl;have J_:=Je 1 _ rfl;have Xk:=Jj 0 _ rfl;have Xg:=Jj 1 _ rfl;have m0:=h6.bx 0 _ rfl;have m1:=h6.bx 1 _ rfl;obtain⟨Xb,Xa,Xi⟩:=h3 Jm Jk r8;clear Jm Jk r8 t8 o8 q8 Jc Jn Jr Jh hB Ja h6 h5 h4 z6 t6 Jd Je Jj;go_wp2_with(at_builtin;rw[<-Xb.out,<-Xa.out];refine ao rfl _ _ _ rfl _ _ (.slice ua un uc) W8 rfl rfl Xi.out ?_);have Xe:=ah (Jb.out _ ((((am.refl (fun k=>k=M∨k=R) W8).setCell (p:=⟨M,1,none⟩) (.inl rfl) (.slice ua un uc)).setCell (p:=⟨R,0,none⟩) (.inr rfl) (.slice ga gn gc)).setCell (p:=⟨R,1,none⟩) (.inr rfl) (.slice ua un uc)));clear Jb;have Xd:¬R=M:=fun e=>Jv e.symm;refine bodyPost_ret (v:=.agg #[.slice ga gn gc,.slice ua un uc]) (by simp[results,results24,go_sem,Xh,J_,Xk,Xg,Xd,Jv]) rfl Xe
end
theorem CN{G:GT}(hL:ft G.T G.K){n:Nat}{w:World}{s:PS}{B:Nat}{vg vf:Value}{t:Tr}(hi:aC G.T [40] (dj G.T s).2=false)(h9:aC G.T [91] (dj G.T s).2=true)(Xk:eu (n+1) s)(hS:aN G w s)(hq:TQ B w vg vf t)(hB:B<=w.heap.size)(Jc:G.P<B/\G.bT<B)(Xj:t.globals.length<=100000/\t.funcs.length<=100000):
  Calls prog 24 #[.pointer (some ⟨G.P,0,none⟩),.agg #[vg,vf]] w (n8 G B w (ci t (.inl ⟨(dj G.T s).1,qa (fZ G.T (bA G.T [91] (dj G.T s).2)).1⟩)) (bq G.T [59] (cO G.T [93] (fZ G.T (bA G.T [91] (dj G.T s).2)).2))):=by
 obtain⟨ga,gc,Xe,-⟩:=au hq.gs;obtain⟨fa,fn,fc,Xp⟩:∃fa fn fc,vf=.slice fa fn fc:=by
  obtain⟨Q,h1,h2⟩:=hq.fs;obtain⟨a,c,e,-⟩:=au h2.row;exact⟨_,_,_,e⟩
 obtain⟨gn,Xh⟩:=q_ t.globals.length;rw[<-Xh]at Xe;subst Xe Xp;clear Xh;obtain⟨W1,Jv⟩:=q_ ((w.alloc (.cells #[.slice ga gn gc,.slice fa fn fc] 26)).alloc (.cells #[.slice none 0 0,.slice none 0 0] 26));obtain⟨M,hM⟩:=q_ w.heap.size;obtain⟨R,hR⟩:=q_ (w.heap.size+1);have h1:=qZ hS Jv hM hR;have Xo:Hid (∀W,aN G W s->Calls prog 49 #[.pointer (some ⟨G.P,0,none⟩),.string (tx [105,110,116])] W fun e w'=>e=.returned (.tuple #[])/\aN G w' (bq G.T [105,110,116] s)/\am (fun k=>k=G.P) W w'):=fun W hW=>ey hL hW _;have Xq:Hid (∀W,aN G W (bq G.T [105,110,116] s)->Calls prog 50 #[.pointer (some ⟨G.P,0,none⟩)] W fun e w'=>e=.returned (.string (dj G.T s).1)/\aN G w' (dj G.T s).2/\am (fun k=>k=G.P) W w'):=fun W hW=>dv hL hW;have Js:eu (n+1) (dj G.T s).2:=Xk.of (lO s);have HL:=ah hL;have HQ:=ah hq;have HB:=ah (And.intro hB (And.intro Jc Xj));generalize dj G.T s=hz at*;obtain⟨nm,y⟩:=hz;dsimp only at*;have Jj:eu n (bA G.T [91] y):=Js.on [91];have Xn:Hid (∀W,aN G W y->Calls prog 54 #[.pointer (some ⟨G.P,0,none⟩),.string (tx [91])] W fun e w'=>e=.returned (.tuple #[])/\aN G w' (bA G.T [91] y)/\am (fun k=>k=G.P) W w'):=fun W hW=>d8 HL.out hW Js.bd _;have Xt:Hid (∀W,aN G W (bA G.T [91] y)->Calls prog 55 #[.pointer (some ⟨G.P,0,none⟩)] W fun e w'=>e=.returned (.int .i64 (fZ G.T (bA G.T [91] y)).1)/\aN G w' (fZ G.T (bA G.T [91] y)).2/\am (fun k=>k=G.P) W w'):=fun W hW=>oQ HL.out hW;have Xg:Hid (∀W,aN G W (fZ G.T (bA G.T [91] y)).2->Calls prog 56 #[.pointer (some ⟨G.P,0,none⟩),.string (tx [93])] W fun e w'=>e=.returned (.tuple #[])/\aN G w' (cO G.T [93] (fZ G.T (bA G.T [91] y)).2)/\am (fun k=>k=G.P) W w'):=fun W hW=>dG HL.out hW (Jj.of (nu_op _)).bd _;generalize bA G.T [91] y=y1 at*;generalize fZ G.T y1=uz at*;obtain⟨u,y2⟩:=uz;dsimp only at*;have Xf:Hid (∀W,aN G W (cO G.T [93] y2)->Calls prog 49 #[.pointer (some ⟨G.P,0,none⟩),.string (tx [59])] W fun e w'=>e=.returned (.tuple #[])/\aN G w' (bq G.T [59] (cO G.T [93] y2))/\am (fun k=>k=G.P) W w'):=fun W hW=>ey HL.out hW _;clear Jj;have Xr:=ah Jv;have HM:=ah hM;have HR:=ah hR;clear Jv hM hR hL hq hB Jc Xj Xk hS Js;go_enter func24,ntmps24;go_upto_region 1 with fail;rw[<-Xr.out,<-HR.out,<-HM.out];go_wp2_with fail;refine(Xo.out _ h1.st).mono ?_;rintro e w2 ⟨rfl,z2,t2⟩;have h2:=h1.step z2 t2;clear z2 t2 h1;go_wp2_with fail;refine(Xq.out _ h2.st).mono ?_;rintro e w3 ⟨rfl,z3,t3⟩;have h3:=h2.step z3 t3;clear z3 t3 h2;go_wp2_with fail;refine(aE h3.st [40]).mono ?_;rintro e w4 ⟨rfl,b4⟩;rw[hi];have h4:=h3.below b4;clear b4 h3;obtain⟨W5,Xc⟩:=q_ (w4.alloc (.cells #[.string nm,.int .i64 0] 74));obtain⟨N,eN⟩:=q_ w4.heap.size;have h5:=sF h4 Xc eN;have Xs:=ah Xc;have HN:=ah eN;clear Xc eN h4;go_upto_region 9 with fail;rw[<-Xs.out,<-HN.out];go_wp2_with fail;refine(aE h5.tb.st [91]).mono ?_;rintro e w6 ⟨rfl,b6⟩;rw[h9];have h6:=h5.below b6;clear b6 h5;go_wp2_with fail;refine(Xn.out _ h6.tb.st).mono ?_;rintro e w7 ⟨rfl,z7,t7⟩;have h7:=h6.step z7 t7;clear z7 t7 h6;go_wp2_with fail;refine(Xt.out _ h7.tb.st).mono ?_;rintro e w8 ⟨rfl,z8,t8⟩;have h8:=h7.step z8 t8;clear z8 t8 h7;obtain⟨X9,Jq⟩:=q_ (w8.setCell ⟨N,1,none⟩ (.int .i64 u));have h10:=h8.put u Jq;have Xl:=h8.nx 1 _ rfl;have Xi:=ah Jq;clear Jq h8;go_upto_region 12 with fail;rw[<-Xi.out];clear Xl;have Xd:=h10.nx 1 _ rfl;by_cases hu0:u=0
 ·subst hu0;obtain⟨Xu,Jf⟩:=q_ (X9.setCell ⟨N,1,none⟩ (.int .i64 (-1)));have h11:=h10.put (-1) Jf;have Jy:=ah Jf;clear Jf h10;go_upto_region 14 with fail;rw[<-Jy.out];clear Xd;go_wp2_with fail;refine(Xg.out _ h11.tb.st).mono ?_;rintro e Xm ⟨rfl,Jk,Jo⟩;have h12:=h11.step Jk Jo;clear Jk Jo h11;go_wp2_with fail;refine(Xf.out _ h12.tb.st).mono ?_;rintro e Jm ⟨rfl,Jl,Jn⟩;have Ja:=h12.step Jl Jn;clear Jl Jn h12;obtain⟨W7,Ji⟩:=q_ (Jm.alloc (.cells #[.string nm,.int .i64 (-1)] 74));obtain⟨B7,Jh⟩:=q_ Jm.heap.size;have Jc:=HB.out.2.1;have hB:=HB.out.1;obtain⟨v8,W8,r8,t8,o8,q8⟩:=HQ.out.addG (g:=⟨nm,(-1)⟩) Ja.tb.t (fun k hk=>by rw[hk];exact Jc.1) hB Ji Jh HB.out.2.2.1;have Jd:=HQ.out.rg;have hm:=Ja.tb.m;have Jb:Hid (∀We,am (fun k=>k=M∨k=R) W8 We->n8 G B w (ci t (.inl ⟨nm,(-1)⟩)) (bq G.T [59] (cO G.T [93] y2)) (.returned (.agg #[v8,.slice fa fn fc])) We):=fun We hE=>Ja.tb.fin hB Jc t8 (fun k hk=>(Jd k hk).1) (fun We hE=>q8 We (hE.mono fun k hk=>by omega)) hE;have Je:aR W8 M [.slice ga gn gc,.slice fa fn fc]:=Ja.tb.bx.tcs hm.2.1 t8 (fun e=>by have:=(Jd _ e).2;omega);have Jg:aR W8 R [.slice none 0 0,.slice none 0 0]:=Ja.tb.rs.tcs hm.2.2.2.1 t8 (fun e=>by have:=(Jd _ e).2;omega);obtain⟨ua,un,uc,rfl⟩:∃ua un uc,v8=.slice ua un uc:=by
   obtain⟨a,c,e,-⟩:=au (q8 W8 (am.refl _ _)).gs;exact⟨_,_,_,e⟩
  have Jp:M≠R:=hm.2.2.2.2;have J_:=Je 0 _ rfl;have Jr:=Je 1 _ rfl;have Xb:=Jg 0 _ rfl;have Jz:=Jg 1 _ rfl;have m0:=Ja.tb.bx 0 _ rfl;have n0:=Ja.nx 0 _ rfl;have n1:=Ja.nx 1 _ rfl;have Ju:=ah Ji;have Jt:=ah Jh;have Xa:=ah r8;clear Ji Jh r8 t8 o8 q8 Jd hm hB Jc Ja Je Jg;go_wp2_with(at_builtin;rw[<-Ju.out,<-Jt.out];refine ao rfl _ _ _ rfl _ _ (.slice ua un uc) W8 rfl rfl Xa.out ?_);have Jx:=ah (Jb.out _ ((((am.refl (fun k=>k=M∨k=R) W8).setCell (p:=⟨M,0,none⟩) (.inl rfl) (.slice ua un uc)).setCell (p:=⟨R,0,none⟩) (.inr rfl) (.slice ua un uc)).setCell (p:=⟨R,1,none⟩) (.inr rfl) (.slice fa fn fc)));clear Jb;have Jw:¬R=M:=fun e=>Jp e.symm;refine bodyPost_ret (v:=.agg #[.slice ua un uc,.slice fa fn fc]) (by simp[results,results24,go_sem,J_,Jr,Xb,Jz,Jw,Jp]) rfl (by rw[show qa 0= -1 from rfl];exact Jx)
 ·clear Xi;go_upto_region 14 with fail;clear Xd;have h11:=h10;clear h10;go_wp2_with fail;refine(Xg.out _ h11.tb.st).mono ?_;rintro e Xm ⟨rfl,Jk,Jo⟩;have h12:=h11.step Jk Jo;clear Jk Jo h11;go_wp2_with fail;refine(Xf.out _ h12.tb.st).mono ?_;rintro e Jm ⟨rfl,Jl,Jn⟩;have Ja:=h12.step Jl Jn;clear Jl Jn h12;obtain⟨W7,Ji⟩:=q_ (Jm.alloc (.cells #[.string nm,.int .i64 u] 74));obtain⟨B7,Jh⟩:=q_ Jm.heap.size;have Jc:=HB.out.2.1;have hB:=HB.out.1;obtain⟨v8,W8,r8,t8,o8,q8⟩:=HQ.out.addG (g:=⟨nm,u⟩) Ja.tb.t (fun k hk=>by rw[hk];exact Jc.1) hB Ji Jh HB.out.2.2.1;have Jd:=HQ.out.rg;have hm:=Ja.tb.m;have Jb:Hid (∀We,am (fun k=>k=M∨k=R) W8 We->n8 G B w (ci t (.inl ⟨nm,u⟩)) (bq G.T [59] (cO G.T [93] y2)) (.returned (.agg #[v8,.slice fa fn fc])) We):=fun We hE=>Ja.tb.fin hB Jc t8 (fun k hk=>(Jd k hk).1) (fun We hE=>q8 We (hE.mono fun k hk=>by omega)) hE;have Je:aR W8 M [.slice ga gn gc,.slice fa fn fc]:=Ja.tb.bx.tcs hm.2.1 t8 (fun e=>by have:=(Jd _ e).2;omega);have Jg:aR W8 R [.slice none 0 0,.slice none 0 0]:=Ja.tb.rs.tcs hm.2.2.2.1 t8 (fun e=>by have:=(Jd _ e).2;omega);obtain⟨ua,un,uc,rfl⟩:∃ua un uc,v8=.slice ua un uc:=by
   obtain⟨a,c,e,-⟩:=au (q8 W8 (am.refl _ _)).gs;exact⟨_,_,_,e⟩
  have Jp:M≠R:=hm.2.2.2.2;have J_:=Je 0 _ rfl;have Jr:=Je 1 _ rfl;have Xb:=Jg 0 _ rfl;have Jz:=Jg 1 _ rfl;have m0:=Ja.tb.bx 0 _ rfl;have n0:=Ja.nx 0 _ rfl;have n1:=Ja.nx 1 _ rfl;have Ju:=ah Ji;have Jt:=ah Jh;have Xa:=ah r8;clear Ji Jh r8 t8 o8 q8 Jd hm hB Jc Ja Je Jg;go_wp2_with(at_builtin;rw[<-Ju.out,<-Jt.out];refine ao rfl _ _ _ rfl _ _ (.slice ua un uc) W8 rfl rfl Xa.out ?_);have Jx:=ah (Jb.out _ ((((am.refl (fun k=>k=M∨k=R) W8).setCell (p:=⟨M,0,none⟩) (.inl rfl) (.slice ua un uc)).setCell (p:=⟨R,0,none⟩) (.inr rfl) (.slice ua un uc)).setCell (p:=⟨R,1,none⟩) (.inr rfl) (.slice fa fn fc)));clear Jb;have Jw:¬R=M:=fun e=>Jp e.symm;refine bodyPost_ret (v:=.agg #[.slice ua un uc,.slice fa fn fc]) (by simp[results,results24,go_sem,J_,Jr,Xb,Jz,Jw,Jp]) rfl (by rw[show qa u=u from if_neg hu0];exact Jx)
section
variable{T:TypeId}{sz B n:Nat}{S:Nat->Prop}{w w':World}{v:Value}{xs:List Value}
theorem fx(h:w.ownsRow B T sz v n xs)(ht:am S w w')(hS:∀k,v.ownBlock=some k->¬S k):w'.ownsRow B T sz v n xs:=by
 obtain⟨hx,h|⟨g,Jb,Ja,rfl,h1,h2,h3⟩⟩:=h
 ·exact⟨hx,.inl h⟩
 ·exact⟨hx,.inr ⟨g,Jb,Ja,rfl,h1,(ht.block g (Array.getElem?_eq_some_iff.1 h2).1 (hS g rfl)).trans h2,h3⟩⟩
theorem dY.past{S':Nat->Prop}{P:World->Prop}(h:dY T sz S B w v n xs P)(ht:am S' w w')(hs:∀k,S' k->S k)(hn:∀k,v.ownBlock=some k->¬S' k):dY T sz S B w' v n xs P:=
 ⟨fx h.row ht hn,fun W hW=>h.st W ((ht.mono fun k hk=>.inl (hs k hk)).trans hW)⟩
structure CP (g M:Nat) (a:Option Addr) (len cap O R4 N fl:Nat) (w W:World) (vb vg:Value) (bF cF:Nat) (gs:List Gl) (Q:List FV) (R:List SV):Prop where
 box:aR W O [vg,.slice (some ⟨bF,0,none⟩) fl cF]
 res:aR W R4 [.slice none 0 0,.slice none 0 0]
 gr:GR N W vg gs
 fr:F2 (fun k=>k<M∨k=R4) N W (.slice (some ⟨bF,0,none⟩) fl cF) Q
 br:BR (fun k=>k<M∨k=R4∨k=bF) N W vb R
 ln:Q.length=fl/\fl<=20/\gs.length<=30/\R.length<=20000
 gn:∀x∈gs,x.name.size<=100000
 cur:dP g a len cap W
 tcs:am (S0 g) w W
 ne:O≠bF/\O≠R4/\(∀k,vg.ownBlock=some k->k≠bF)/\(∀k,vb.ownBlock=some k->k≠bF)
 lo:(g<M/\M<=w.heap.size)/\w.heap.size<=R4/\R4<N/\w.heap.size<=O
theorem uy{g M:Nat}{a:Option Addr}{len cap O R4 N fl:Nat}{W:World}{vb vg:Value}{bF cF:Nat}{gs:List Gl}{Q:List FV}{R:List SV}(h:CP g M a len cap O R4 N fl w W vb vg bF cF gs Q R)(hL:Lo g a len (S0 g) w.heap.size)(f:Nat)(hf:f<fl):
  (W.cell? ⟨O,1,none⟩=some (.slice (some ⟨bF,0,none⟩) fl cF)/\(∃old,W.cell? ⟨bF,f*3+2,none⟩=some old)/\W.frozen? ⟨bF,f*3+2,none⟩=false)/\∃W1,W1=W.setCell ⟨bF,f*3+2,none⟩ vb/\aR W1 O [vg,.slice (some ⟨bF,0,none⟩) fl cF]/\aR W1 R4 [.slice none 0 0,.slice none 0 0]/\∃W2,W2=(W1.setCell ⟨R4,0,none⟩ vg).setCell ⟨R4,1,none⟩ (.slice (some ⟨bF,0,none⟩) fl cF)/\aR W2 R4 [vg,.slice (some ⟨bF,0,none⟩) fl cF]/\(∃t,TW (fun k=>k<M) W2 vg (.slice (some ⟨bF,0,none⟩) fl cF) t)/\Dr g a len cap (S0 g) w W2:=by
 obtain⟨Jq,Jr,Jk,Jl⟩:=h.ln;obtain⟨n1,n2,n3,n4⟩:=h.ne;obtain⟨l0,l1,l2,l3⟩:=h.lo;have Jt:=hL.gl;have Js:=h.fr.rng bF rfl;have Jd:f<Q.length:=o_;have Ja:W.ownsRow N 43 3 (.slice (some ⟨bF,0,none⟩) fl cF) fl (a_ Q):=by have:=h.fr.row.row;rw[Jq]at this;exact this
 have Jj:(a_ Q).length=Q.length*3:=eI Q;refine⟨⟨(h.box 1 _ rfl).1,⟨(a_ Q)[f*3+2]'(by omega),?_⟩,World.ownsRow.frozenAt Ja _⟩,_,rfl,?_⟩
 ·rw[World.ownsRow.cellAt Ja (f*3+2) o_];exact List.getElem?_eq_getElem _
 obtain⟨W1,Jh⟩:=q_ (W.setCell ⟨bF,f*3+2,none⟩ vb);have t1:am (fun k=>k=bF) W W1:=by rw[Jh];exact(am.refl (fun k=>k=bF) W).setCell (p:=⟨bF,f*3+2,none⟩) rfl _
 have Jo:O<W.heap.size:=b_ (h.box 0 _ rfl).1;have Jc:R4<W.heap.size:=b_ (h.res 0 _ rfl).1;have Jn:=h.box.tcs Jo t1 (fun e=>n1 e);have Je:=h.res.tcs Jc t1 (fun e=>by have e:R4=bF:=e;omega);have hp:∀W',am (fun k=>(k<M∨k=R4)∨k=bF) W W'->Strs W' Q[f].vp Q[f].f.params/\xM W' vb R/\R.map (·.s)=R.map (·.s):=fun W' hW'=>by
  refine⟨(h.fr.row.st W' (hW'.mono fun k hk=>hk.imp id fun e=>by rw[e];rfl) Q[f] (g_ Jd)).1,A3 (B:=N) (fx h.br.row.row hW' fun k hk hs=>?_) (h.br.row.st W' (hW'.mono fun k hk=>.inl ?_)),rfl⟩
  ·have:=(h.br.rng k hk).1
   have:=n4 k hk
   rcases hs with(e|e)|e <;> omega
  ·rcases hk with(e|e)|e
   ·exact .inl e
   ·exact .inr (.inl e)
   ·exact .inr (.inr e)
 have ho:qY ⟨Q[f].f.name,Q[f].f.params,R.map (·.s)⟩:=by
  have k:=h.fr.ok Q[f] (g_ Jd);exact⟨k.nm,k.pl,k.pn,by show(R.map (·.s)).length<=20000;simpa using Jl,fun s hs=>by obtain⟨x,hx,rfl⟩:=List.mem_map.1 hs;exact h.br.ok x hx⟩
 have Ji:=h.fr.put f 2 vb ⟨⟨Q[f].f.name,Q[f].f.params,R.map (·.s)⟩,Q[f].vp,vb,R,[],[]⟩ Jd o_ rfl hp ho;rw[<-Jh]at Ji⊢;refine⟨Jn,Je,_,rfl,?_⟩;obtain⟨W2,Jb⟩:=q_ ((W1.setCell ⟨R4,0,none⟩ vg).setCell ⟨R4,1,none⟩ (.slice (some ⟨bF,0,none⟩) fl cF));have t2:am (fun k=>k=R4) W1 W2:=by rw[Jb];exact((am.refl (fun k=>k=R4) W1).setCell (p:=⟨R4,0,none⟩) rfl _).setCell (p:=⟨R4,1,none⟩) rfl _
 have Jp:aR W2 R4 [vg,.slice (some ⟨bF,0,none⟩) fl cF]:=by rw[Jb];exact(Je.set 0 _).set 1 _
 have Jf:W.ownsRow N 74 2 vg gs.length (bN gs):=h.gr;have Jm:GR N W2 vg gs:=fx (fx Jf t1 (fun k hk e=>n3 k hk e)) t2 (fun k hk e=>by have:=(World.ownsRow.lt Jf k hk).1;have e:k=R4:=e;omega);have Jg:=Ji.tcs (t2.mono fun k hk=>.inr hk) (fun k hk=>by rcases hk with e|e <;> omega);rw[<-Jb];refine⟨Jp,⟨⟨gs,_⟩,fun W' hW'=>pF (az Jm hW' fun k hk=>by have:k<M:=hk;omega),fun W' hW'=>Jg.funcs (fun k hk=>by rcases hk with e|e <;> omega) W' (hW'.mono fun k hk=>.inl hk),Jk,h.gn,by simp;omega,by simp;omega,fun x hx=>?_⟩,⟨?_,?_⟩⟩
 ·obtain⟨q,hq,rfl⟩:=List.mem_map.1 hx;exact Jg.ok q hq
 ·exact(h.cur.new hL t1 (fun k hk=>by omega)).new hL t2 (fun k hk=>by omega)
 ·exact(h.tcs.next t1 (fun k hk=>.inr o_)).next t2 (fun k hk=>.inr o_)
end
theorem CO{G:GT}(hL:ft G.T G.K){n:Nat}{w:World}{s:PS}{B:Nat}{vg vf:Value}{t:Tr}(hi:aC G.T [40] (dj G.T s).2=false)(h9:aC G.T [91] (dj G.T s).2=false)(Jo:eu (n+1) s)(hS:aN G w s)(hq:TQ B w vg vf t)(hB:B<=w.heap.size)(Jb:G.P<B/\G.bT<B)(Jn:t.globals.length<=100000/\t.funcs.length<=100000):
  Calls prog 24 #[.pointer (some ⟨G.P,0,none⟩),.agg #[vg,vf]] w (n8 G B w (ci t (.inl ⟨(dj G.T s).1,0⟩)) (bq G.T [59] (dj G.T s).2)):=by
 obtain⟨ga,gc,Jk,-⟩:=au hq.gs;obtain⟨fa,fn,fc,J_⟩:∃fa fn fc,vf=.slice fa fn fc:=by
  obtain⟨Q,h1,h2⟩:=hq.fs;obtain⟨a,c,e,-⟩:=au h2.row;exact⟨_,_,_,e⟩
 obtain⟨gn,Jm⟩:=q_ t.globals.length;rw[<-Jm]at Jk;subst Jk J_;clear Jm;obtain⟨W1,Jf⟩:=q_ ((w.alloc (.cells #[.slice ga gn gc,.slice fa fn fc] 26)).alloc (.cells #[.slice none 0 0,.slice none 0 0] 26));obtain⟨M,hM⟩:=q_ w.heap.size;obtain⟨R,hR⟩:=q_ (w.heap.size+1);have h1:=qZ hS Jf hM hR;have Jt:Hid (∀W,aN G W s->Calls prog 49 #[.pointer (some ⟨G.P,0,none⟩),.string (tx [105,110,116])] W fun e w'=>e=.returned (.tuple #[])/\aN G w' (bq G.T [105,110,116] s)/\am (fun k=>k=G.P) W w'):=fun W hW=>ey hL hW _;have Xb:Hid (∀W,aN G W (bq G.T [105,110,116] s)->Calls prog 50 #[.pointer (some ⟨G.P,0,none⟩)] W fun e w'=>e=.returned (.string (dj G.T s).1)/\aN G w' (dj G.T s).2/\am (fun k=>k=G.P) W w'):=fun W hW=>dv hL hW;have Jq:eu (n+1) (dj G.T s).2:=Jo.of (lO s);obtain⟨HL,HQ,HB⟩:=h3 hL hq (And.intro hB (And.intro Jb Jn));generalize dj G.T s=hz at*;obtain⟨nm,y⟩:=hz;dsimp only at*;have Jw:Hid (∀W,aN G W y->Calls prog 49 #[.pointer (some ⟨G.P,0,none⟩),.string (tx [59])] W fun e w'=>e=.returned (.tuple #[])/\aN G w' (bq G.T [59] y)/\am (fun k=>k=G.P) W w'):=fun W hW=>ey HL.out hW _;obtain⟨Xc,HM,HR⟩:=h3 Jf hM hR;clear Jf hM hR hL hq hB Jb Jn Jo hS Jq;go_enter func24,ntmps24;go_upto_region 1 with fail;rw[<-Xc.out,<-HR.out,<-HM.out];go_wp2_with fail;refine(Jt.out _ h1.st).mono ?_;rintro e w2 ⟨rfl,z2,t2⟩;have h2:=h1.step z2 t2;clear z2 t2 h1;go_wp2_with fail;refine(Xb.out _ h2.st).mono ?_;rintro e w3 ⟨rfl,z3,t3⟩;have h3:=h2.step z3 t3;clear z3 t3 h2;go_wp2_with fail;refine(aE h3.st [40]).mono ?_;rintro e w4 ⟨rfl,b4⟩;rw[hi];have h4:=h3.below b4;clear b4 h3;obtain⟨W5,Ji⟩:=q_ (w4.alloc (.cells #[.string nm,.int .i64 0] 74));obtain⟨N,eN⟩:=q_ w4.heap.size;have h5:=sF h4 Ji eN;obtain⟨Xd,HN⟩:=h2 Ji eN;clear Ji eN h4;go_upto_region 9 with fail;rw[<-Xd.out,<-HN.out];go_wp2_with fail;refine(aE h5.tb.st [91]).mono ?_;rintro e w6 ⟨rfl,b6⟩;rw[h9];have h6:=h5.below b6;clear b6 h5;go_wp2_with fail;refine(Jw.out _ h6.tb.st).mono ?_;rintro e w9 ⟨rfl,z9,t9⟩;have Ja:=h6.step z9 t9;clear z9 t9 h6;obtain⟨W7,Jj⟩:=q_ (w9.alloc (.cells #[.string nm,.int .i64 0] 74));obtain⟨B7,Jh⟩:=q_ w9.heap.size;have Jb:=HB.out.2.1;have hB:=HB.out.1;obtain⟨v8,W8,r8,t8,o8,q8⟩:=HQ.out.addG (g:=⟨nm,0⟩) Ja.tb.t (fun k hk=>by rw[hk];exact Jb.1) hB Jj Jh HB.out.2.2.1;have Jd:=HQ.out.rg;have hm:=Ja.tb.m;have Jc:Hid (∀We,am (fun k=>k=M∨k=R) W8 We->n8 G B w (ci t (.inl ⟨nm,0⟩)) (bq G.T [59] y) (.returned (.agg #[v8,.slice fa fn fc])) We):=fun We hE=>Ja.tb.fin hB Jb t8 (fun k hk=>(Jd k hk).1) (fun We hE=>q8 We (hE.mono fun k hk=>by omega)) hE;have Je:aR W8 M [.slice ga gn gc,.slice fa fn fc]:=Ja.tb.bx.tcs hm.2.1 t8 (fun e=>by have:=(Jd _ e).2;omega);have Jg:aR W8 R [.slice none 0 0,.slice none 0 0]:=Ja.tb.rs.tcs hm.2.2.2.1 t8 (fun e=>by have:=(Jd _ e).2;omega);obtain⟨ua,un,uc,rfl⟩:∃ua un uc,v8=.slice ua un uc:=by
  obtain⟨a,c,e,-⟩:=au (q8 W8 (am.refl _ _)).gs;exact⟨_,_,_,e⟩
 have Jl:M≠R:=hm.2.2.2.2;have Jy:=Je 0 _ rfl;have Jp:=Je 1 _ rfl;have Xa:=Jg 0 _ rfl;have Jx:=Jg 1 _ rfl;have m0:=Ja.tb.bx 0 _ rfl;have n0:=Ja.nx 0 _ rfl;have n1:=Ja.nx 1 _ rfl;obtain⟨Js,Jr,Jz⟩:=h3 Jj Jh r8;clear Jj Jh r8 t8 o8 q8 Jd hm hB Jb Ja Je Jg;go_wp2_with(at_builtin;rw[<-Js.out,<-Jr.out];refine ao rfl _ _ _ rfl _ _ (.slice ua un uc) W8 rfl rfl Jz.out ?_);have Jv:=ah (Jc.out _ ((((am.refl (fun k=>k=M∨k=R) W8).setCell (p:=⟨M,0,none⟩) (.inl rfl) (.slice ua un uc)).setCell (p:=⟨R,0,none⟩) (.inr rfl) (.slice ua un uc)).setCell (p:=⟨R,1,none⟩) (.inr rfl) (.slice fa fn fc)));clear Jc;have Ju:¬R=M:=fun e=>Jl e.symm;refine bodyPost_ret (v:=.agg #[.slice ua un uc,.slice fa fn fc]) (by simp[results,results24,go_sem,Jy,Jp,Xa,Jx,Ju,Jl]) rfl Jv
section
variable{n:Nat}{s s':PS}
theorem Ad{G:GT}(hL:ft G.T G.K){w:World}{x:Gl ⊕ Fu}{B:Nat}{vg vf:Value}{t:Tr}(hp:Tp G.T n s x s')(hx:∀f,x=.inr f->f.params.length<=1000000/\fJ f.body<=1000000)(Jb:eu (n+1) s)(hS:aN G w s)(hq:TQ B w vg vf t)(hB:B<=w.heap.size)(Jc:G.P<B/\G.bT<B)(Ja:t.globals.length<=100000/\t.funcs.length<=100000):
  Calls prog 24 #[.pointer (some ⟨G.P,0,none⟩),.agg #[vg,vf]] w (n8 G B w (ci t x) s'):=by
 cases hp using Tp_i with
 | fn ps s1 b _ h1 h2 h3=>exact CM hL h1 h2 h3 (hx _ rfl) Jb hS hq hB Jc Ja
 | ga h1 h2=>exact CN hL h1 h2 Jb hS hq hB Jc Ja
 | gv h1 h2=>exact CO hL h1 h2 Jb hS hq hB Jc Ja
theorem Tp.op{T:Nat->To}{x:Gl ⊕ Fu}(h:Tp T n s x s'):s'.op=s.op:=by
 cases h using Tp_i with
 | fn ps s1 b _ h1 h2 h3=>rw[h3.op,cl_op,h2.op,on_op,lO];omega
 | ga h1 h2=>rw[ta_op,cl_op,nu_op,on_op,lO];omega
 | gv h1 h2=>rw[ta_op,lO]
end
section
variable{t' t:Tr}{X:World}{K R N:Nat}
structure PB (G:GT) (B:Nat) (w0:World) (R N:Nat) (vg vf:Value) (t:Tr) (W:World) (z:PS):Prop where
 st:aN G W z
 tq:TQ B W vg vf t
 bx:aR W N [vg,vf]
 rs:aR W R [.int .i64 0,.int .i64 0,.slice none 0 0,.slice none 0 0]
 bb:Below w0.heap.size w0 W
 lt:G.P<B/\G.bT<B/\R<B/\N<B/\B<=W.heap.size
 ge:w0.heap.size<=G.P/\w0.heap.size<=G.bT/\w0.heap.size<=R/\w0.heap.size<=N
 ne:R≠N/\G.P≠N/\G.bT≠N/\G.P≠R
section
variable{G:GT}{B:Nat}{w0 W W':World}{R N:Nat}{vg vf:Value}{t:Tr}{z z':PS}
theorem PB.below(h:PB G B w0 R N vg vf t W z)(hb:Below W.heap.size W W'):PB G B w0 R N vg vf t W' z:=
 ⟨h.st.below hb,h.tq.below hb,h.bx.below hb,h.rs.below hb,h.bb.trans (hb.mono h.bb.size),by have:=h.lt;have:=hb.size;omega,h.ge,h.ne⟩
theorem PB.next{Jc Jb:Value}(h:PB G B w0 R N vg vf t W z)(hz:aN G W' z')(hq:TQ B W' Jc Jb t')(ht:am (fun k=>k=G.P∨B<=k) W W')(hX:X=(W'.setCell ⟨N,0,none⟩ Jc).setCell ⟨N,1,none⟩ Jb):
  (W'.cell? ⟨N,0,none⟩=some vg/\W'.frozen? ⟨N,0,none⟩=false/\W'.cell? ⟨N,1,none⟩=some vf/\W'.frozen? ⟨N,1,none⟩=false)/\PB G B w0 R N Jc Jb t' X z':=by
 have hl:=h.lt;have hg:=h.ge;have hn:=h.ne;have hs:=ht.size;have Ja:aR W' N [vg,vf]:=h.bx.tcs o_ ht (fun e=>by omega);have Jd:aR W' R [.int .i64 0,.int .i64 0,.slice none 0 0,.slice none 0 0]:=h.rs.tcs o_ ht (fun e=>by omega);have tX:am (fun k=>k=N) W' X:=by rw[hX];exact((am.refl (fun k=>k=N) W').setCell (p:=⟨N,0,none⟩) rfl _).setCell (p:=⟨N,1,none⟩) rfl _
 have Je:=tX.size;have tb:Bl w0 W':=ht.below h.bb h.bb.size (fun k hk=>by omega);refine⟨⟨(Ja 0 _ rfl).1,(Ja 0 _ rfl).2,(Ja 1 _ rfl).1,(Ja 1 _ rfl).2⟩,hz.tcs tX (fun e=>by omega) (fun e=>by omega),hq.tcs tX (fun k hk=>by omega),?_,Jd.tcs o_ tX (fun e=>by omega),tX.below tb tb.size (fun k hk=>by omega),o_,hg,hn⟩;rw[hX];exact(Ja.set 0 Jc).set 1 Jb
end
theorem xW{T:Nat->To}{J:Nat}(h:ft T K)(h':ft T J):J=K:=by
 rcases Nat.lt_trichotomy J K with e|e|e
 ·have:=h.lt J e;have:=h'.at4;omega
 ·exact e
 ·have:=h'.lt K e;have:=h.at4;omega
theorem CQ{w W1 w2 W3 W4:World}{bT cT P:Nat}{T:Nat->To}(Jf:Below w.heap.size w W1)(Jg:aR W1 R [.int .i64 0,.int .i64 0,.slice none 0 0,.slice none 0 0])(hR:w.heap.size<=R)(Jd:Below W1.heap.size W1 w2)(h1:W1.heap.size<=bT)(h2:bT<w2.heap.size)(Jk:∀P,Dk w2 ⟨P,bT,cT,K,T⟩)(hK:K<=20000)
  (hP:P=w2.heap.size) (hN:N=w2.heap.size+1) (Je:W3=w2.alloc (.cells #[.slice (some ⟨bT,0,none⟩) (K+1) cT,.int .i64 0,.int .i64 0,.int .i64 0,.int .i64 0] 53)) (Jc:W4=W3.alloc (.cells #[.slice none 0 0,.slice none 0 0] 26)):
  PB ⟨P,bT,cT,K,T⟩ (w2.heap.size+2) w R N (.slice none 0 0) (.slice none 0 0) t00 W4 qy:=by
 have Jb:Bl w2 W3:=by rw[Je];exact r_.alloc n_ _
 have Ja:Bl W3 W4:=by rw[Jc];exact r_.alloc n_ _
 have s3:W3.heap.size=w2.heap.size+1:=by rw[Je];simp
 have s4:W4.heap.size=W3.heap.size+1:=by rw[Jc];simp
 have s1:=Jf.size;have s2:=Jd.size;have Jl:R<W1.heap.size:=b_ (Jg 0 _ rfl).1;have Jh:aR W3 P (GT.box ⟨P,bT,cT,K,T⟩ qy):=by rw[Je,hP];exact aJ w2 #[.slice (some ⟨bT,0,none⟩) (K+1) cT,.int .i64 0,.int .i64 0,.int .i64 0,.int .i64 0] _ (by show 5<=1000;omega)
 have Ji:aR W4 N [.slice none 0 0,.slice none 0 0]:=by
  have e:N=W3.heap.size:=o_;rw[Jc,e];exact aJ W3 #[.slice none 0 0,.slice none 0 0] _ (by show 2<=1000;omega)
 have Jj:aN ⟨P,bT,cT,K,T⟩ W3 qy:=⟨Jh,(Jk P).tcs (S:=fun _=>False) Jb.tcs (fun h=>h),by show bT≠P;omega,y_,by show K<=1000000;omega,by show(-9000000:Int)<=0/\(0:Int)<=9000000;omega⟩;exact⟨Jj.below Ja,CL _ _,Ji,((Jg.below Jd).below Jb).below Ja,((Jf.trans (Jd.mono s1)).trans (Jb.mono o_)).trans (Ja.mono o_),by show P<_/\bT<_/\R<_/\N<_/\_<=_;omega,by show _<=P/\_<=bT/\_<=R/\_<=N;omega,by show R≠N/\P≠N/\bT≠N/\P≠R;omega⟩
def CR(l:List UInt8)(r:Int×Int×Tr)(w:World)(e:Ending)(w':World):Prop:=∃vg vf,e=.returned (.agg #[.int .i64 r.1,.int .i64 r.2.1,vg,vf])/\dL w' vg r.2.2.globals/\dM w' vf r.2.2.funcs/\Below w.heap.size w w'
theorem Fi(w:World):dL w (.slice none 0 0) []:=⟨none,0,rfl,n_,o_,fun h=>absurd h i_⟩
theorem nof(w:World):dM w (.slice none 0 0) []:=⟨none,0,rfl,n_,o_,fun h=>absurd h i_⟩
theorem PB.ans{G:GT}{B:Nat}{w0 W:World}{vg vf ug uf:Value}{z:PS}{a b:Int}(l:List UInt8)(h:PB G B w0 R N vg vf t W z)(hX:am (fun k=>k=R) W X)(hg:dL X ug t'.globals/\dM X uf t'.funcs){r:Int×Int×Tr}(hr:(a,b,t')=r):CR l r w0 (.returned (.agg #[.int .i64 a,.int .i64 b,ug,uf])) X:=by
 subst hr;exact⟨ug,uf,rfl,hg.1,hg.2,hX.below h.bb h.bb.size (fun k hk=>by rw[hk];exact h.ge.2.2.1)⟩
theorem q9(w:World)(b c:Nat)(l:List UInt8)(hl:20000<l.length)(hm:l.length<=9223372036854775807):
  Calls prog 6 #[.slice (some ⟨b,0,none⟩) l.length c] w (CR l (1,0,t00) w):=by
 go_enter func6,ntmps6;go_wp2_with fail;refine bodyPost_ret (v:=.agg #[.int .i64 1,.int .i64 0,.slice none 0 0,.slice none 0 0]) (by simp[results,results6,go_sem]) rfl ⟨_,_,rfl,Fi _,nof _,?_⟩;first|exact r_.alloc n_ _|exact((((aD _ _).setCell n_ _).setCell n_ _).setCell n_ _).setCell n_ _
theorem ra(w:World)(b c:Nat)(l:List UInt8)(hT:ia w b l)(hb:b<w.heap.size)(hl:l.length<=20000)(hc:l.length<=c){k:Nat}{s:PS}(hR:Rn l (ai l) K k t s):
  Calls prog 6 #[.slice (some ⟨b,0,none⟩) l.length c] w (CR l (f_ l t s) w):=by
 obtain⟨W1,Jg⟩:=q_ (w.alloc (.cells #[.int .i64 0,.int .i64 0,.slice none 0 0,.slice none 0 0] 28));obtain⟨R,eR⟩:=q_ w.heap.size;have Jf:Bl w W1:=by rw[Jg];exact r_.alloc n_ _
 have Jv:aR W1 R [.int .i64 0,.int .i64 0,.slice none 0 0,.slice none 0 0]:=by rw[Jg,eR];exact aJ w #[.int .i64 0,.int .i64 0,.slice none 0 0,.slice none 0 0] _ (by show 4<=1000;omega)
 obtain⟨HX,Xj,HR,Jd,HI⟩:=h5 (zJ W1 b c l (hT.below Jf hb) (l_ hb Jf.size) hl hc) Jg eR hR (And.intro Jf Jv);clear Jg eR Jf Jv hT hb hR;go_enter func6,ntmps6;go_upto_region 1 with fail;rw[<-Xj.out,<-HR.out];go_wp2_with fail;refine HX.out.mono ?_;rintro e w2 ⟨v2,K2,rfl,Xa,Xg,Xk,Js⟩;obtain⟨bT,cT,rfl,Jc,Je,Jx⟩:=Xa.tks;have J_:=xW Jd.out.las Xg;subst J_;obtain⟨P,eP⟩:=q_ w2.heap.size;obtain⟨N,eN⟩:=q_ (w2.heap.size+1);obtain⟨W3,Jj⟩:=q_ (w2.alloc (.cells #[.slice (some ⟨bT,0,none⟩) (K2+1) cT,.int .i64 0,.int .i64 0,.int .i64 0,.int .i64 0] 53));obtain⟨W4,Jl⟩:=q_ (W3.alloc (.cells #[.slice none 0 0,.slice none 0 0] 26));have Ja:K2<=20000:=o_;have h4:=CQ HI.out.1 HI.out.2 (by rw[HR.out];exact n_) Js Jc Je Jx Ja eP eN Jj Jl;obtain⟨B,eB⟩:=q_ (w2.heap.size+2);rw[<-eB]at h4;have Xf:(⟨P,bT,cT,K2,ai l⟩:GT).K=K2:=rfl;obtain⟨G,eG⟩:∃G:GT,G=⟨P,bT,cT,K2,ai l⟩:=⟨_,rfl⟩;have HG:Hid (G.T=ai l/\G.K=K2):=by rw[eG];exact⟨rfl,rfl⟩
 have Jt:P=G.P:=by rw[eG]
 rw[<-eG]at h4;obtain⟨HP,HN,Xl,Xh,Jm,H4,Xe⟩:=h7 eP eN Jj Jl Ja h4 Jt;clear eP eN Jj Jl eB eG Xf Jt Jc Je Jx Js Xk Ja h4 HI HX;go_wp2_with fail;rw[<-Xl.out];rw[<-HN.out,<-HP.out];rw[<-Xh.out,Xe.out];have Jq:Hid (∃(vg vf:Value) (t0:Tr) (z:PS),nr (ai l) (20*K2+40) k z t0 t s/\z.op=0/\PB G B w R N vg vf t0 W4 z):=⟨_,_,_,_,Jd.out.pg,rfl,H4⟩;go_loopg[] k (fun gk wr=>∃(vg vf:Value) (t0:Tr) (z:PS),nr (ai l) (20*K2+40) gk z t0 t s/\z.op=0/\PB G B w R N vg vf t0 wr z)
 case atStart=>exact Jq
 case round=>
  clear Jq;obtain⟨vg,vf,t0,z,hp,Jo,h⟩:=hrel;have p3:=h.st.box 3 _ rfl;have p4:=h.st.box 4 _ rfl;have n0:=h.bx 0 _ rfl;have n1:=h.bx 1 _ rfl;have r0:=h.rs 0 _ rfl;have r1:=h.rs 1 _ rfl;have r2:=h.rs 2 _ rfl;have r3:=h.rs 3 _ rfl;by_cases h0:z.er=0
  case neg=>
   obtain⟨rfl,rfl⟩:=hp.end' (.inl h0);have HE:Hid (∀X,am (fun k=>k=R) wr X->CR l (f_ l t s) w (.returned (.agg #[.int .i64 s.er,.int .i64 s.pl,.slice none 0 0,.slice none 0 0])) X):=fun X hX=>h.ans l hX (t':=t00) ⟨Fi _,nof _⟩ (by unfold f_;rw[if_pos h0]);have Xb:=h.ne;generalize s.er=er at*;generalize s.pl=pl at*;go_upto_region 8 with fail;go_region
   go_wp2_with fail;refine bodyPost_ret (v:=.agg #[.int .i64 er,.int .i64 pl,.slice none 0 0,.slice none 0 0]) (by simp[results,results6,go_sem,r0,r1,r2,r3]) rfl (HE.out _ (((((am.refl (fun k=>k=R) wr).setCell (p:=⟨R,0,none⟩) rfl _).setCell (p:=⟨R,1,none⟩) rfl _).setCell (p:=⟨R,2,none⟩) rfl _).setCell (p:=⟨R,3,none⟩) rfl _).drew)
  case pos=>
   rw[h0]at p3;have Jb:=ah (d7 h.st);have Jp:=fun W=>kX ((ai l) z.i) 0 _ rfl d_ W;rw[HG.out.1]at Jb;unfold AI at Jb Jp;by_cases h4:((ai l) z.i).kind=4
   case pos=>
    obtain⟨rfl,rfl⟩:=hp.end' (.inr h4);rw[h4]at Jb Jp;generalize ((ai l) s.i).text=tt at*;generalize ((ai l) s.i).num=tn at*;generalize (((ai l) s.i).pl:Int)=tp at*;obtain⟨HH,Xd⟩:=h2 h (Jd.out.sm.small Jm);clear h hp Jo p4 h4 n0 n1 r0 r1 r2 r3;go_wp2_with fail;refine Jb.out.mono ?_;rintro e w5 ⟨rfl,b5⟩;have h5:=HH.out.below b5;have Jy:=h5.st.box 3 _ rfl;rw[h0]at Jy;have n0:=h5.bx 0 _ rfl;have n1:=h5.bx 1 _ rfl;go_wp2_with fail;refine(jR t vg vf w5 Xd.out h5.tq.read.1 h5.tq.read.2).mono ?_;rintro e w6 ⟨rfl,b6⟩;have h6:=h5.below b6;clear b6 h5 Jy n0 n1;have n0:=h6.bx 0 _ rfl;have n1:=h6.bx 1 _ rfl;have r0:=h6.rs 0 _ rfl;have r1:=h6.rs 1 _ rfl;have r2:=h6.rs 2 _ rfl;have r3:=h6.rs 3 _ rfl;have Xb:=h6.ne;have Ji:=h6.tq.read;obtain⟨ga,gn,gc,rfl⟩:∃ga gn gc,vg=.slice ga gn gc:=by
     obtain⟨a,c,e,-⟩:=Ji.1;exact⟨_,_,_,e⟩
    obtain⟨fa,fn,fc,rfl⟩:∃fa fn fc,vf=.slice fa fn fc:=by
     obtain⟨a,c,e,-⟩:=Ji.2;exact⟨_,_,_,e⟩
    cases hv:cK t
    ·have HE:Hid (∀X,am (fun k=>k=R) w6 X->CR l (f_ l t s) w (.returned (.agg #[.int .i64 5,.int .i64 (l.length:Int),.slice none 0 0,.slice none 0 0])) X):=fun X hX=>h6.ans l hX (t':=t00) ⟨Fi _,nof _⟩ (by unfold f_;rw[if_neg (by simp[h0]),if_neg (by simp[hv])]);go_wp2_with fail;refine bodyPost_ret (v:=.agg #[.int .i64 5,.int .i64 (l.length:Int),.slice none 0 0,.slice none 0 0]) (by simp[results,results6,go_sem,r0,r1,r2,r3]) rfl (HE.out _ (((((am.refl (fun k=>k=R) w6).setCell (p:=⟨R,0,none⟩) rfl _).setCell (p:=⟨R,1,none⟩) rfl _).setCell (p:=⟨R,2,none⟩) rfl _).setCell (p:=⟨R,3,none⟩) rfl _))
    ·have HE:Hid (∀X,am (fun k=>k=R) w6 X->CR l (f_ l t s) w (.returned (.agg #[.int .i64 0,.int .i64 0,.slice ga gn gc,.slice fa fn fc])) X):=fun X hX=>h6.ans l hX (t':=t) ((h6.tq.tcs hX (fun k hk=>by rw[hk];exact h6.lt.2.2.1)).read) (by unfold f_;rw[if_neg (by simp[h0]),if_pos hv]);clear h6 Ji;go_wp2_with fail;refine bodyPost_ret (v:=.agg #[.int .i64 0,.int .i64 0,.slice ga gn gc,.slice fa fn fc]) (by simp[results,results6,go_sem,r0,r1,r2,r3]) rfl (HE.out _ (((((am.refl (fun k=>k=R) w6).setCell (p:=⟨R,0,none⟩) rfl _).setCell (p:=⟨R,1,none⟩) rfl _).setCell (p:=⟨R,2,none⟩) rfl _).setCell (p:=⟨R,3,none⟩) rfl _))
   case neg=>
    obtain⟨m,x,s1,rfl,hx,Jw⟩:=hp.more' h0 h4;obtain⟨Jk,Jh⟩:=Jw.sizes Jd.out.sm Jm;have Xm:=ah fun W vg vf (hW:PB G B w R N vg vf t0 W z)=>Ad (n:=20*K2+40) (by rw[HG.out.1,HG.out.2];exact Jd.out.las) (by rw[HG.out.1];exact hx) Jk (by unfold eu;rw[Jo];have:=Jm.out;omega) hW.st hW.tq hW.lt.2.2.2.2 ⟨hW.lt.1,hW.lt.2.1⟩ Jh;have Xc:Hid (s1.op=0):=hx.op.trans Jo;obtain⟨Xi,HH⟩:=h2 Jw h;generalize ((ai l) z.i).kind=kd at*;generalize ((ai l) z.i).text=tt at*;generalize ((ai l) z.i).num=tn at*;generalize (((ai l) z.i).pl:Int)=tp at*;go_wp2_with fail;refine Jb.out.mono ?_;rintro e w5 ⟨rfl,b5⟩;have h5:=HH.out.below b5;clear b5 HH Jb;have n0:=h5.bx 0 _ rfl;have n1:=h5.bx 1 _ rfl;go_wp2_with fail;refine(Xm.out w5 vg vf h5).mono ?_;rintro e w6 ⟨ug,uf,rfl,q6,z6,t6⟩;obtain⟨ga,gc,Jr,-⟩:=au q6.gs;generalize (ci t0 x).globals.length=gn at Jr;subst Jr;obtain⟨fa,fn,fc,rfl⟩:∃fa fn fc,uf=.slice fa fn fc:=by
     obtain⟨Q,-,h2⟩:=q6.fs;obtain⟨a,c,e,-⟩:=au h2.row;exact⟨_,_,_,e⟩
    obtain⟨X7,Ju⟩:=q_ ((w6.setCell ⟨N,0,none⟩ (.slice ga gn gc)).setCell ⟨N,1,none⟩ (.slice fa fn fc));obtain⟨⟨c0,f0,c1,f1⟩,h7⟩:=h5.next z6 q6 t6 Ju;have Jz:=ah Ju;have Jn:Hid (∃(vg vf:Value) (t0:Tr) (z:PS),nr (ai l) (20*K2+40) m z t0 t s/\z.op=0/\PB G B w R N vg vf t0 X7 z):=⟨_,_,_,_,Xi,Xc,h7⟩;go_wp2;go_roundg m
    case measure=>omega
    case rel=>rw[<-Jz.out];exact Jn
end
end Go.Proofs.YtlamjfhhefcohaaGreatDoor
