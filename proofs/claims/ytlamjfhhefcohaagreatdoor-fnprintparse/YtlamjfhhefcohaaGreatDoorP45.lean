import Derived.Test.YtlamjfhhefcohaaGreatDoorP37
import Derived.Test.YtlamjfhhefcohaaGreatDoorP44
namespace Go.Proofs.YtlamjfhhefcohaaGreatDoor
open Go.Proofs.Tryz
open Go.RowKit
set_option linter.all false
set_option maxRecDepth 100000
set_option maxHeartbeats 16000000
variable[Inhabited Pick]
theorem Ay(a b:Int)(W:World):(Instr.typeAssert (.iface 65 (.agg #[.int .i64 a,.int .i64 b])) 20 65 true).run prog W=.ok (.tuple #[.agg #[.int .i64 a,.int .i64 b],.bool true]) W:=by kernel_rfl
theorem Az(W:World):(Instr.typeAssert .nilIface 20 65 true).run prog W=.ok (.tuple #[.agg #[.int .i64 0,.int .i64 0],.bool false]) W:=by kernel_rfl
theorem gY(R:Nat)(x y a b:Int)(w:World)(h0:w.cell? ⟨R,0,none⟩=some (.int .i64 x)/\w.frozen? ⟨R,0,none⟩=false)(h1:w.cell? ⟨R,1,none⟩=some (.int .i64 y)/\w.frozen? ⟨R,1,none⟩=false)(hR:R<w.heap.size):
  CallsD prog 57 #[.pointer (some ⟨R,0,none⟩)] (.panicking [{v:=.iface 65 (.agg #[.int .i64 a,.int .i64 b]),recovered:=false}]) w λe u' w'=>
   e=.returned (.tuple #[])/\u'=.panicking [{v:=.iface 65 (.agg #[.int .i64 a,.int .i64 b]),recovered:=true}]/\w'.cell? ⟨R,0,none⟩=some (.int .i64 a)/\w'.cell? ⟨R,1,none⟩=some (.int .i64 b)/\am (λk=>k=R) w w':=by
 obtain⟨Jc,Jb⟩:=h0;obtain⟨h10,h11⟩:=h1;refine callsD_of_wpS func57 rfl λc₀ cs hu=>?_;apply wpS_seq;apply wpS_region;simp[wpOpsS,go_sem,recoverD,hu,ntmps57,Exit.thenS,Ay];obtain⟨W1,Ja⟩:=q_ (w.alloc (.cells #[.int .i64 a,.int .i64 b] 65));obtain⟨N,eN⟩:=q_ w.heap.size;have hb:Bl w W1:=by rw[Ja];exact r_.alloc n_ _
 have hx:aR W1 N [.int .i64 a,.int .i64 b]:=by rw[Ja,eN];exact aJ w #[.int .i64 a,.int .i64 b] _ (by show 2<=1000;omega)
 have hy:aR W1 R [.int .i64 x,.int .i64 y]:=aR.below (w:=w) (λj v hv=>by
  match j,hv with
  | 0,hv=>cases hv;exact⟨Jc,Jb⟩
  | 1,hv=>cases hv;exact⟨h10,h11⟩
  | j+2,hv=>simp at hv) hb
 have n0:=hx 0 _ rfl;have n1:=hx 1 _ rfl;have r0:=hy 0 _ rfl;have r1:=hy 1 _ rfl;have Jd:¬N=R:=o_;have tt:am (λk=>k=R) w ((W1.setCell ⟨R,0,none⟩ (.int .i64 a)).setCell ⟨R,1,none⟩ (.int .i64 b)):=((hb.tcs (S:=λk=>k=R)).setCell (p:=⟨R,0,none⟩) rfl _).setCell (p:=⟨R,1,none⟩) rfl _;rw[<-Ja,<-eN];apply wpS_seq;apply wpS_region;simp[wpOpsS,go_sem,Exit.thenS];refine wpS_cond (t:=true) (by simp[Act.eval,Array.replicate]) ?_;simp only[if_true];apply wpS_region;simp[wpOpsS,go_sem,n0,n1,r0,r1,bodyPostS,results,results57,tt]
theorem rx(R:Nat)(w:World):
  CallsD prog 57 #[.pointer (some ⟨R,0,none⟩)] .returning w λe u' w'=>e=.returned (.tuple #[])/\u'=.returning/\Below w.heap.size w w':=by
 refine callsD_of_wpS func57 rfl λc₀ cs hu=>?_;apply wpS_seq;apply wpS_region;simp[wpOpsS,go_sem,recoverD,hu,ntmps57,Exit.thenS,Az];apply wpS_seq;apply wpS_region;simp[wpOpsS,go_sem,Exit.thenS];refine wpS_cond (t:=false) (by simp[Act.eval,Array.replicate]) ?_;simp only[Bool.false_eq_true,if_false];refine wpS_of_wp (wp_skip ?_);cases c₀
 have hb:Bl w (w.alloc (.cells #[.int .i64 0,.int .i64 0] 65)):=aD _ _;simp_all [bodyPostS,results,results57]
def AA(C:RC)(B:Nat)(w:World)(t':Tr)(s':PS)(e:Ending)(w':World):Prop:=
 (¬iV (ai C.l) s'/\e=.returned (.agg #[.int .i64 0,.int .i64 0])/\(∃m',bj C m' w' s'/\sJ B w' m' t')/\Below C.B0 w w') ∨
 (iV (ai C.l) s'/\e=.returned (.agg #[.int .i64 (kQ (ai C.l) s').1,.int .i64 (kQ (ai C.l) s').2])/\Below C.B0 w w')
theorem ry{C:RC}(HN:gW C){n:Nat}(hn:n<=1000000){w:World}{k:Nat}{t':Tr}{s':PS}{kd:Int}{tt:ByteArray}{vl pl:Int}(hC:uV C)(hP:C.P+1=w.heap.size)(hb:∀W,Below w.heap.size w W->C.P+1<W.heap.size->jz C W (cw C.l 0:Int) kd tt vl pl ⟨.slice none 0 0,.slice none 0 0,false⟩ 0)(hp:nr (ai C.l) n k qy t00 t' s')(Jp:zg C.K 0 t')(hK:C.K<=20000):
  Calls prog 25 #[.pointer (some ⟨C.P,0,none⟩)] w (AA C (w.heap.size+1) w t' s'):=by
 obtain⟨W1,Jd⟩:=q_ (w.alloc (.cells #[.int .i64 0,.int .i64 0] 65));obtain⟨R,eR⟩:=q_ w.heap.size;have Jf:Bl w W1:=by rw[Jd];exact r_.alloc n_ _
 have Jm:aR W1 R [.int .i64 0,.int .i64 0]:=by rw[Jd,eR];exact aJ w #[.int .i64 0,.int .i64 0] _ (by show 2<=1000;omega)
 have Jt:W1.heap.size=w.heap.size+1:=by rw[Jd];simp
 have Ji:R<W1.heap.size:=o_;have Jy:=ah ((HN W1 0 kd tt vl pl _ 0 hC (hb W1 Jf o_) y_ o_).mono λe w' hz=>hz qy rfl rfl rfl);have Jr:=ah λm W (h1:bj C m W qy) (h2:sJ (R+1) W m t00) (h3:R+1<=W.heap.size)=>uC HN hn hp Jp hK h1 h2 o_ h3;have Jk:=hC.hi;have Jc:C.B0<=W1.heap.size:=o_
 have Jb:Hid (R=C.P+1):=by show R=C.P+1;omega
 have Jh:=ah λW (h:Kp C W1 W)=>Jm.tcs Ji h (λe=>e.2 Jb);have Je:Hid (∀W z W',iV (ai C.l) z->Dm (ai C.l) z s'->Kp C W1 W->am (λk=>k=R) W W'->AA C (R+1) w t' s' (.returned (.agg #[.int .i64 (kQ (ai C.l) z).1,.int .i64 (kQ (ai C.l) z).2])) W'):=λW z W' hd hm hk ht=>by
  obtain⟨d1,d2⟩:=hm hd;refine .inr ⟨d1,by rw[d2],?_⟩;have h1:Below C.B0 w W:=(Jf.mono o_).trans (hk.low Jc);exact ht.below h1 (t_ Jc (am.size hk)) (λk hk=>by rw[hk,Jb.out];omega)
 have Jx:Hid (∀m W W',bj C m W s'->sJ (R+1) W m t'->Kp C W1 W->am (λk=>k=R) W W'->AA C (R+1) w t' s' (.returned (.agg #[.int .i64 0,.int .i64 0])) W'):=λm W W' h1 h2 hk ht=>by
  refine .inl ⟨h1.al,rfl,⟨m,h1.tcs ht (λe=>by have:=Jb.out;omega) (λk hk=>by rw[hk,Jb.out];omega),?_⟩,?_⟩
  ·exact h2.tcs ht (λk hk=>by omega)
  ·have h1:Below C.B0 w W:=(Jf.mono o_).trans (hk.low Jc);exact ht.below h1 (t_ Jc (am.size hk)) (λk hk=>by rw[hk,Jb.out];omega)
 have Jw:Hid (Dm (ai C.l) qy s'):=hp.pg.dm;have Jv:Hid (∀W,am (λk=>k=C.P) W1 W->Kp C W1 W):=λW h=>am.mono h (λk hk=>by rw[hk];exact⟨Jk,o_⟩);have Jq:=ah λW W' (h1:Kp C W1 W) (h2:am (λk=>k=C.P∨R+1<=k) W W')=>Kp.trans h1 (am.mono h2 (λk hk=>by have:=Jb.out;omega));have Jz:∀(fn:Fn) (first cap:Array Value) (w:World),(Instr.makeFunc fn first cap).run prog w=.ok (.func fn first cap) w:=λ_ _ _ _=>rfl;have Ju:Hid (R+1<=W1.heap.size):=by show R+1<=_;omega
 obtain⟨Js,HR⟩:=h2 Jd eR;clear hb hp Jp hK HN hC Jf Jm Jd eR Ji Jt Jk Jc hP;go_enter_defers func25,ntmps25;go_upto_region 2 with fail;rw[<-Js.out,<-HR.out];go_wp2_with fail;refine Jy.out.mono (λe w2 hg=>?_);rcases hg.symm with hd|⟨-,rfl,z2,t2⟩
 ·obtain⟨d1,rfl,d3⟩:=hd;have hf:=Jh.out w2 d3;have HF:=ah (λW' ht=>Je.out w2 qy W' d1 Jw.out d3 ht);unfold a8 at*;generalize (kQ (ai C.l) qy).1=f1 at*;generalize (kQ (ai C.l) qy).2=f2 at*;go_wp2_with fail;refine leaves_cons (f:=57) (args:=#[.pointer (some ⟨R,0,none⟩)]) i_ (by simp[go_sem]) ?_;refine(gY R 0 0 f1 f2 _ (hf 0 _ rfl) (hf 1 _ rfl) (b_ (hf 0 _ rfl).1)).mono ?_;rintro e u' w3 ⟨rfl,rfl,c0,c1,t3⟩;have hF:=HF.out w3 t3;simp[Leaves,settle,results,results25,go_sem,c0,c1];first|exact hF|(rw[<-HR.out];exact hF)
 ·have Jg:=Jv.out w2 t2;have Jn:=ah (Jr.out _ w2 z2 (Af _ _) (t_ Ju.out t2.size));clear z2 t2;go_wp2_with fail;refine Jn.out.mono (λe w3 hg=>?_);rcases hg.symm with hd|⟨-,m',rfl,Jo,Jl,t3⟩
  ·obtain⟨d1,rfl,d3⟩:=hd;have Ja:=Jg.trans d3;have hf:=Jh.out w3 Ja;have HF:=ah (λW' ht=>Je.out w3 s' W' d1 (Dm.refl _) Ja ht);unfold a8 at*;generalize (kQ (ai C.l) s').1=f1 at*;generalize (kQ (ai C.l) s').2=f2 at*;go_wp2_with fail;refine leaves_cons (f:=57) (args:=#[.pointer (some ⟨R,0,none⟩)]) i_ (by simp[go_sem]) ?_;refine(gY R 0 0 f1 f2 _ (hf 0 _ rfl) (hf 1 _ rfl) (b_ (hf 0 _ rfl).1)).mono ?_;rintro e u' w4 ⟨rfl,rfl,c0,c1,t4⟩;have hF:=HF.out w4 t4;simp[Leaves,settle,results,results25,go_sem,c0,c1];first|exact hF|(rw[<-HR.out];exact hF)
  ·have Ja:=Jq.out w2 w3 Jg t3;have hf:=Jh.out w3 Ja;have r0:=hf 0 _ rfl;have r1:=hf 1 _ rfl;have HF:=ah (λW' ht=>Jx.out m' w3 W' Jo Jl Ja ht);have Jj:aR ((w3.setCell ⟨R,0,none⟩ (.int .i64 0)).setCell ⟨R,1,none⟩ (.int .i64 0)) R [.int .i64 0,.int .i64 0]:=(hf.set 0 (.int .i64 0)).set 1 (.int .i64 0);have t5:am (λk=>k=R) w3 ((w3.setCell ⟨R,0,none⟩ (.int .i64 0)).setCell ⟨R,1,none⟩ (.int .i64 0)):=((am.refl (λk=>k=R) w3).setCell (p:=⟨R,0,none⟩) rfl _).setCell (p:=⟨R,1,none⟩) rfl _;have H5:=ah (And.intro Jj t5);clear Jo Jl t3 Jg Ja hf Jn Jj t5;go_wp2_with fail;refine leaves_cons (f:=57) (args:=#[.pointer (some ⟨R,0,none⟩)]) i_ (by simp[go_sem]) ?_;refine(rx R _).mono ?_;rintro e u' w4 ⟨rfl,rfl,b4⟩;have hF:=HF.out w4 (H5.out.2.of_below b4);have c0:=(H5.out.1.below b4 0 _ rfl).1;have c1:=(H5.out.1.below b4 1 _ rfl).1;simp[Leaves,settle,results,results25,go_sem,c0,c1];first|exact hF|(rw[<-HR.out];exact hF)
section
variable{B k:Nat}{w:World}{t:Tr}
def Ev(r:Int×Int×Tr)(w:World)(e:Ending)(w':World):Prop:=∃vg vf Q,e=.returned (.agg #[.int .i64 r.1,.int .i64 r.2.1,vg,vf])/\bB w.heap.size w' vg vf r.2.2 Q/\Below w.heap.size w w'
theorem bB.base{B':Nat}{vg vf:Value}{Q:List FV}(h:bB B w vg vf t Q)(hb:B'<=B):bB B' w vg vf t Q:=⟨pE h.gs hb,h.fs.base hb,h.map,h.sep⟩
theorem yE(h:∃g∈t.globals,g.size= -1):cK t=false:=by
 obtain⟨g,hg,e⟩:=h;have:t.globals.all bV=false:=by
  rw[List.all_eq_false];refine⟨g,hg,?_⟩;unfold bV;rw[e];simp
 unfold cK;rw[this];simp
theorem yG{v:Value}{gs:List Gl}{K:List Nat}(h:gZ B w v gs.length (iW gs) K):dL w v gs:=by
 have e:iW gs=bN gs:=rfl;rw[e]at h;rcases h with⟨h0,-,a,c,rfl,hc⟩|⟨g,Jb,rfl,-,h3,h4,-,-,h7⟩
 ·exact⟨a,c,by rw[h0],o_,hc,λhp=>absurd hp o_⟩
 ·refine⟨_,Jb,rfl,h3,h4,λ_=>⟨g,0,rfl,λj hj=>?_⟩⟩;have Ja:∀i (hi:i<2),w.cell? ⟨g,0+j*2+i,none⟩=(qc gs[j])[i]? := λi hi=>by
   have e:=gD gs j i hj hi;have hl:i<(qc gs[j]).length:=hi;rw[List.getElem?_eq_getElem hl]at e⊢;rw[Nat.zero_add];exact(h7 _ _ e).1
  exact⟨Ja 0 o_,Ja 1 o_⟩
theorem Ej{T:Nat->To}{n:Nat}{s t t' s'}(h:nr T n k s t t' s'):iV T s'↔s'.er≠0:=by
 have:=h.pg.end4
 unfold iV;constructor
 ·rintro(h1|h1)
  ·exact h1
  ·rcases this with h2|h2
   ·exact h2
   ·rw[h1]at h2;cases h2
 ·exact λh=>.inl h
theorem uP(w:World)(b c:Nat)(l:List UInt8)(hl:20000<l.length)(hm:l.length<=9223372036854775807):
  Calls prog 8 #[.slice (some ⟨b,0,none⟩) l.length c] w (Ev (1,0,t00) w):=by
 go_enter func8,ntmps8;go_wp2_with fail;refine bodyPost_ret (v:=.agg #[.int .i64 1,.int .i64 0,.slice none 0 0,.slice none 0 0]) (by simp[results,results8,go_sem]) rfl ⟨_,_,[],rfl,bB.nil _ _,?_⟩;first|exact r_.alloc n_ _|exact((((aD _ _).setCell n_ _).setCell n_ _).setCell n_ _).setCell n_ _
theorem uQ(w:World)(b c:Nat)(l:List UInt8)(hT:ia w b l)(hb:b<w.heap.size)(hl:l.length<=20000)(hc:l.length<=c)(Xv:w.rangeAt 7 0 fk)(Xi:yP w)(Jb:dz w)(Xu:7<w.heap.size){K:Nat}{s:PS}(hR:Rn l (ai l) K k t s):
  Calls prog 8 #[.slice (some ⟨b,0,none⟩) l.length c] w (Ev (f_ l t s) w):=by
 obtain⟨W1,Jq⟩:=q_ (w.alloc (.cells #[.int .i64 0,.int .i64 0,.slice none 0 0,.slice none 0 0] 28));obtain⟨R,eR⟩:=q_ w.heap.size;obtain⟨P,eP⟩:=q_ (w.heap.size+1);obtain⟨W2,Jo⟩:=q_ (W1.alloc (.cells #[.slice (some ⟨b,0,none⟩) l.length c,.int .i64 0,.int .i64 0,.string ⟨#[]⟩,.int .i64 0,.int .i64 0,.slice none 0 0,.slice none 0 0,.int .i64 0,.bool false] 63));have Xr:Bl w W1:=by rw[Jq];exact r_.alloc n_ _
 have Jy:Bl W1 W2:=by rw[Jo];exact r_.alloc n_ _
 have s1:W1.heap.size=w.heap.size+1:=by rw[Jq];simp
 have s2:W2.heap.size=W1.heap.size+1:=by rw[Jo];simp
 have Xo:aR W1 R [.int .i64 0,.int .i64 0,.slice none 0 0,.slice none 0 0]:=by rw[Jq,eR];exact aJ w #[.int .i64 0,.int .i64 0,.slice none 0 0,.slice none 0 0] _ (by show 4<=1000;omega)
 obtain⟨C,eC⟩:∃C:RC,C=⟨P,b,c,P,K,l⟩:=⟨_,rfl⟩;have Xq:aR W2 P (C.box 0 0 ⟨#[]⟩ 0 0 ⟨.slice none 0 0,.slice none 0 0,false⟩ 0):=by
  have e:P=W1.heap.size:=o_;rw[eC,Jo,e];exact aJ W1 #[.slice (some ⟨b,0,none⟩) l.length c,.int .i64 0,.int .i64 0,.string ⟨#[]⟩,.int .i64 0,.int .i64 0,.slice none 0 0,.slice none 0 0,.int .i64 0,.bool false] _ (by show 10<=1000;omega)
 have Jz:4<w.heap.size:=by obtain⟨ev,h1,-⟩:=Xi;exact b_ h1
 have hC:uV C:=by rw[eC];exact⟨by show b<P;omega,n_,by show _<P;omega,by show _<P;omega,hl,hc,hR.las⟩
 have Jf:Bl w W2:=Xr.trans (Jy.mono o_);have Xk:∀W,Bl W2 W->C.P+1<W.heap.size->jz C W (cw C.l 0:Int) 0 ⟨#[]⟩ 0 0 ⟨.slice none 0 0,.slice none 0 0,false⟩ 0:=λW hW hs=>by
  have hw:Bl w W:=Jf.trans (hW.mono o_);subst eC;exact⟨Xq.below hW,hT.below hw hb,λj v hv=>(c_ (a:=⟨7,0+j,none⟩) (hw.block 7 Xu)).trans (Xv j v hv),Xi.tcs (S:=λ_=>False) hw.tcs (λh=>h),hs⟩
 have X_:Hid (Calls prog 25 #[.pointer (some ⟨P,0,none⟩)] W2 (AA C (W2.heap.size+1) W2 t s)):=by
  have hK:K<=20000:=by have:=hR.kl;omega
  subst eC;exact ry (C:=⟨P,b,c,P,K,l⟩) yD (n:=20*K+40) o_ hC (by show P+1=_;omega) Xk hR.pg hR.sm hK
 have Xm:C.B0=P/\C.P=P/\C.l=l:=by rw[eC];exact⟨rfl,rfl,rfl⟩
 obtain⟨HI,Ya,Yb,Xx,HR,HP⟩:=h6 (And.intro Jf (And.intro (Xo.below Jy) (And.intro Jb (And.intro Xm hR)))) (And.intro s1 (And.intro s2 (And.intro eR eP))) Jq Jo eR eP;clear Jq Jo eR eP eC Xr Jy s1 s2 Xo Xq Jz hC Jf Xk hT hb Xi Jb Xu Xv hR Xm;go_enter func8,ntmps8;go_upto_region 4 with fail;rw[<-Yb.out,<-HP.out,<-HR.out,<-Xx.out];go_wp2_with fail;refine X_.out.mono (λe w3 hg=>?_);have hI:=HI.out;obtain⟨Jf,Jv,Jb,⟨Xl,Xj,Yc⟩,Jh⟩:=hI;have Xa:=Ya.out;have Jn:=Ej Jh.pg;rw[<-Yc]at Jn;have Jl:Below P W2 w3:=by
  rcases hg with⟨-,-,-,h⟩|⟨-,-,h⟩
  ·rw[Xl]at h;exact h
  ·rw[Xl]at h;exact h
 have Jk:Bl w w3:=Jf.trans (Jl.mono o_);have Jp:aR w3 R [.int .i64 0,.int .i64 0,.slice none 0 0,.slice none 0 0]:=Jv.keep (Jl.block R o_);have Xd:=Jl.size;have Jr:dz w3:=Jb.below Jb.size Jk;have Jd:Hid (∀(W X:World) (x y:Int) (vg vf:Value) (tt:Tr) (Q:List FV),Bl w3 W->am (λk=>k=R) W X->bB (W2.heap.size+1) W vg vf tt Q->(x,y,tt)=f_ l t s->Ev (f_ l t s) w (.returned (.agg #[.int .i64 x,.int .i64 y,vg,vf])) X):=λW X x y vg vf tt Q h1 h2 h3 h4=>by
  rw[<-h4];refine⟨vg,vf,Q,rfl,(h3.tcs h2 (λk hk=>by omega)).base o_,?_⟩;have h5:Bl w W:=Jk.trans (h1.mono (by have:=Jk.size;omega));exact h2.below h5 h5.size (λk hk=>by omega)
 rcases hg with⟨Xc,rfl,⟨m',st,tr⟩,-⟩|⟨hd,rfl,-⟩
 ·have Ji:s.er=0:=by
   by_cases h:s.er=0
   ·exact h
   ·exact absurd (Jn.2 h) Xc
  obtain⟨W4,Je⟩:=q_ (w3.alloc (.cells #[.int .i64 0,.int .i64 0] 65));obtain⟨F,eF⟩:=q_ w3.heap.size;have Jc:Bl w3 W4:=by rw[Je];exact r_.alloc n_ _
  have Jg:aR W4 F [.int .i64 0,.int .i64 0]:=by rw[Je,eF];exact aJ w3 #[.int .i64 0,.int .i64 0] _ (by show 2<=1000;omega)
  have Jm:=st.below Jc;have Ja:=Jp.below Jc;obtain⟨t1,Q,hJ⟩:=tr.tcs (S:=λ_=>False) Jc.tcs (λk h=>h.elim);have p9:=Jm.q.2.2;have p6:=Jm.q.1;have p7:=Jm.q.2.1;rw[Xj]at p9 p6 p7;obtain⟨ga,gc,Jx,-⟩:=au hJ.own.gs;obtain⟨fa,fc,Xe⟩:=hJ.own.fs.shape;obtain⟨vg,vf,nz⟩:=m';dsimp only at p9 p6 p7 Jx Xe;obtain⟨gn,Xf⟩:=q_ t1.globals.length;obtain⟨fn,Xg⟩:=q_ Q.length;rw[<-Xf]at Jx;rw[<-Xg]at Xe;subst Jx Xe;obtain⟨HJ,Xs⟩:=h2 hJ Jc;have Xz:Hid (dz W4):=Jr.below Jr.size Jc;have Xn:=ah Ji;have f0:=Jg 0 _ rfl;have f1:=Jg 1 _ rfl;obtain⟨Ju,HF,Yd⟩:=h3 Je eF Jh;have Ye:P≠R:=o_
  cases nz
  ·have Xh:t1.globals=t.globals:=hJ.eq rfl;have J_:=hJ.fu;have ht:t1=t:=by cases t1;cases t;simp only at Xh J_;rw[Xh,J_]
   subst ht;have Xp:=Jh.sm.small (by have:=Jh.kl;omega);have Jw:dL W4 (.slice ga gn gc) t1.globals/\dM W4 (.slice fa fn fc) t1.funcs:=by
    obtain⟨Kg,k1,-⟩:=gZ.of_own hJ.own.gs;refine⟨?_,?_⟩
    ·exact yG k1
    ·have:=hJ.own.fs.funcs
     rw[hJ.own.map]at this;exact this
   obtain⟨HV,Xy,Xw⟩:=h3 (jO t1 _ _ W4 Xz.out Xp Jw.1 Jw.2) Ja Jm;clear Ja Jg Je eF Jm Jc st tr hJ Jn Jl Jk Jp Xd Jr Xa Jf Jv Jb Jh Jw Xp Xh J_ Xf Xg Xc Ji;go_upto_region 5 with fail;rw[<-Ju.out,<-HF.out];go_wp2_with fail;refine HV.out.mono ?_;rintro e w5 ⟨rfl,b5⟩;have Jj:=Xy.out.below b5;have r0:=Jj 0 _ rfl;have r1:=Jj 1 _ rfl;have r2:=Jj 2 _ rfl;have r3:=Jj 3 _ rfl;have Js:=Xw.out.below b5;have q6:=Js.q.1;have q7:=Js.q.2.1;rw[Xj]at q6 q7;dsimp only at q6 q7;have Jt:=Xs.out.trans (b5.mono Xs.out.size);have Xb:=HJ.out.own.tcs (S:=λ_=>False) b5.tcs (λk h=>h.elim);cases hv:cK t1
   ·have HE:=ah λX (hX:am (λk=>k=R) w5 X)=>Jd.out w5 X 5 _ _ _ t00 [] Jt hX (bB.nil _ _) (by unfold f_;rw[if_neg (by simp[Xn.out]),if_neg (by simp[hv])]);clear Jj Js b5 Jt Xb p6 p7 p9 f0 f1;go_wp2_with fail;refine bodyPost_ret (v:=.agg #[.int .i64 5,.int .i64 (l.length:Int),.slice none 0 0,.slice none 0 0]) (by simp[results,results8,go_sem,r0,r1,r2,r3]) rfl (HE.out _ (((((am.refl (λk=>k=R) w5).setCell (p:=⟨R,0,none⟩) rfl _).setCell (p:=⟨R,1,none⟩) rfl _).setCell (p:=⟨R,2,none⟩) rfl _).setCell (p:=⟨R,3,none⟩) rfl _))
   ·have HE:=ah λX (hX:am (λk=>k=R) w5 X)=>Jd.out w5 X 0 0 _ _ t1 Q Jt hX Xb (by unfold f_;rw[if_neg (by simp[Xn.out]),if_pos hv]);clear Jj Js b5 Jt Xb p6 p7 p9 f0 f1;go_wp2_with fail;refine bodyPost_ret (v:=.agg #[.int .i64 0,.int .i64 0,.slice ga gn gc,.slice fa fn fc]) (by simp[results,results8,go_sem,r0,r1,r2,r3]) rfl (HE.out _ (((((am.refl (λk=>k=R) w5).setCell (p:=⟨R,0,none⟩) rfl _).setCell (p:=⟨R,1,none⟩) rfl _).setCell (p:=⟨R,2,none⟩) rfl _).setCell (p:=⟨R,3,none⟩) rfl _))
  ·have hv:cK t=false:=yE (hJ.bad rfl);have r0:=Ja 0 _ rfl;have r1:=Ja 1 _ rfl;have r2:=Ja 2 _ rfl;have r3:=Ja 3 _ rfl;have HE:=ah λX (hX:am (λk=>k=R) W4 X)=>Jd.out W4 X 5 _ _ _ t00 [] Jc hX (bB.nil _ _) (by unfold f_;rw[if_neg (by simp[Ji]),if_neg (by simp[hv])]);clear Ja Jg Je eF Jm Jc st tr hJ Jn Jl Jk Jp Xd Jr Xa Jf Jv Jb Jh Xf Xg Xc Ji hv;go_upto_region 5 with fail;rw[<-Ju.out,<-HF.out];go_wp2_with fail;refine bodyPost_ret (v:=.agg #[.int .i64 5,.int .i64 (l.length:Int),.slice none 0 0,.slice none 0 0]) (by simp[results,results8,go_sem,r0,r1,r2,r3]) rfl (HE.out _ (((((am.refl (λk=>k=R) W4).setCell (p:=⟨R,0,none⟩) rfl _).setCell (p:=⟨R,1,none⟩) rfl _).setCell (p:=⟨R,2,none⟩) rfl _).setCell (p:=⟨R,3,none⟩) rfl _))
 ·have Ji:s.er≠0:=Jn.1 hd;have Xt:kQ (ai C.l) s=(s.er,s.pl):=by unfold kQ;rw[if_neg Ji]
  rw[Xt];dsimp only;obtain⟨W4,Je⟩:=q_ (w3.alloc (.cells #[.int .i64 s.er,.int .i64 s.pl] 65));obtain⟨F,eF⟩:=q_ w3.heap.size;have Jc:Bl w3 W4:=by rw[Je];exact r_.alloc n_ _
  have Jg:aR W4 F [.int .i64 s.er,.int .i64 s.pl]:=by rw[Je,eF];exact aJ w3 #[.int .i64 s.er,.int .i64 s.pl] _ (by show 2<=1000;omega)
  have Ja:=Jp.below Jc;have f0:=Jg 0 _ rfl;have f1:=Jg 1 _ rfl;have r0:=Ja 0 _ rfl;have r1:=Ja 1 _ rfl;have r2:=Ja 2 _ rfl;have r3:=Ja 3 _ rfl;have Yf:F≠R:=o_;have HE:=ah λX (hX:am (λk=>k=R) W4 X)=>Jd.out W4 X _ _ _ _ t00 [] Jc hX (bB.nil _ _) (by unfold f_;rw[if_pos Ji]);obtain⟨Ju,HF⟩:=h2 Je eF;clear Ja Jg Je eF Jc Jn Jl Jk Jp Xd Jr Xa Jf Jv Jb Jh Xt hd Jd;generalize s.er=er at*;generalize s.pl=pl at*;go_upto_region 5 with fail;rw[<-Ju.out,<-HF.out];go_wp2_with fail;refine bodyPost_ret (v:=.agg #[.int .i64 er,.int .i64 pl,.slice none 0 0,.slice none 0 0]) (by simp[results,results8,go_sem,r0,r1,r2,r3]) rfl (HE.out _ (((((am.refl (λk=>k=R) W4).setCell (p:=⟨R,0,none⟩) rfl _).setCell (p:=⟨R,1,none⟩) rfl _).setCell (p:=⟨R,2,none⟩) rfl _).setCell (p:=⟨R,3,none⟩) rfl _))
end
end Go.Proofs.YtlamjfhhefcohaaGreatDoor
