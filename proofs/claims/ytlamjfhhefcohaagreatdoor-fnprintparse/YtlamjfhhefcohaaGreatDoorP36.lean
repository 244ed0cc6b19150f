import Derived.Test.YtlamjfhhefcohaaGreatDoorP35
set_option linter.unusedSectionVars false
variable [Inhabited Go.Proofs.YtlamjfhhefcohaaGreatDoor.Pick]
namespace Go.Proofs.YtlamjfhhefcohaaGreatDoor
open Go.Proofs.Tryz
open Go.RowKit
set_option linter.all false
set_option maxRecDepth 100000
set_option maxHeartbeats 16000000
theorem Ah{C:RC}(HN:gW C){n:Nat}{w:World}{m:TV}{B:Nat}{s:PS}{v:Value}{R:List SV}{r:List St}{s':PS}(hS:bj C m w s)(hr:cD B w v R)(Jg:C.P+1<B)(Je:B<=w.heap.size)(hi:dF (ai C.l s.i)≠1)(hq:vr (ai C.l) s)(Jf:Dm (ai C.l) (aS (ai C.l) s).2 s'):Calls prog 158 #[.pointer (some ⟨C.P,0,none⟩),v] w (gg C m w B v R r s'):=by
 have Jh:=SB.start hS hr Jg Je;have Jb:=ah fun x (hx:dV x=true)=>cY HN hS x hx;have p2:=hS.cki;obtain⟨h1,h2,h3,h4,h5⟩:=hq;have Jc:=vw (l:=C.l) (s:=s) (dB hS.al);rw[decide_eq_false hi]at Jc;obtain⟨d1,d2⟩:=vA hS.al Jc;obtain⟨d3,d4⟩:=Jf d1;have HF:Hid (gg C m w B v R r s' (a8 (3,((ai C.l s.i).pl:Int))) w):=.inr ⟨d3,by rw[d4,d2],Kp.refl _ _⟩;have Jd:=ah (gB hS 3);have e1:(dF (ai C.l s.i) == 1)=false:=by simpa using hi
 generalize ((ai C.l s.i).pl:Int)=pl at*;generalize dF (ai C.l s.i)=ki at*;go_enter func158,ntmps158;go_wp2_with fail;refine(Jb.out [105,110,116] d_).mono (fun e w9 hg=>?_);rcases hg.symm with⟨Ja,-⟩|⟨-,rfl,hw⟩
 ·rw[h1]at Ja;cases Ja
 rw[hw];go_wp2_with fail;refine(Jb.out [105,102] d_).mono (fun e w9 hg=>?_);rcases hg.symm with⟨Ja,-⟩|⟨-,rfl,hw⟩
 ·rw[h2]at Ja;cases Ja
 rw[hw];go_wp2_with fail;refine(Jb.out [119,104,105,108,101] d_).mono (fun e w9 hg=>?_);rcases hg.symm with⟨Ja,-⟩|⟨-,rfl,hw⟩
 ·rw[h3]at Ja;cases Ja
 rw[hw];go_wp2_with fail;refine(Jb.out [114,101,116,117,114,110] d_).mono (fun e w9 hg=>?_);rcases hg.symm with⟨Ja,-⟩|⟨-,rfl,hw⟩
 ·rw[h4]at Ja;cases Ja
 rw[hw];go_wp2_with fail;refine(Jb.out [111,117,116] d_).mono (fun e w9 hg=>?_);rcases hg.symm with⟨Ja,-⟩|⟨-,rfl,hw⟩
 ·rw[h5]at Ja;cases Ja
 rw[hw];go_wp2_with fail;refine Jd.out.mono ?_;rintro e w9 ⟨rfl,hw⟩;rw[hw];unfold a8 at*;go_wp2_with fail;exact⟨rfl,HF⟩
theorem yf{C:RC}(HN:gW C){n:Nat}(Jn:Fm C n):Du C (n+1):=by
 intro w m B s v R a s' hP hS hr Jj Jf hl;obtain⟨s1,hp,rfl⟩:∃s1,Pa (ai C.l) n (.bs []) (bA (ai C.l) [123] s) (.s a) s1/\s'=cO (ai C.l) [125] s1:=by
  cases hP using Pa_i with
  | blk n s a s1 h1=>exact⟨s1,h1,rfl⟩
 have Jc:=SB.start hS hr Jj Jf;have Jm:=ah (eK HN hS [123] d_);have Jl:Hid (Dm (ai C.l) (bA (ai C.l) [123] s) (cO (ai C.l) [125] s1)):=hp.dm.trans (bG _ _);have Jw:Hid (1<=s1.op):=by show 1<=s1.op;rw[hp.op,on_op];have:=hS.op;omega
 have Jp:=ah fun W y (h:bj C m W y)=>du h [125] d_;have Jq:=ah fun W y (h:bj C m W y) (ho:1<=y.op)=>eL HN h ho [125] d_;have Jt:=ah fun W y u Q b y1 (hp:Pa (ai C.l) n .st y (.s b) y1) (h:SB C m B w v W u Q y) (hl:Q.length+fJ b<=1000000)=>Jn W m B y u Q b y1 hp h.st h.row h.pb h.le hl;obtain⟨Jv,Jo⟩:=h2 hl hp;generalize bA (ai C.l) [123] s=z at*;clear hS hr Jj Jf hP hp Jn HN hl;go_enter func131,ntmps131;go_wp2_with fail;refine(Jm).mono (fun e w1 hg=>?_);rcases hg.symm with hd|⟨-,rfl,z2,t2⟩
 ·have HF:Hid (gg C m w B v R a (cO (ai C.l) [125] s1) e w1):=Jc.die hd (Jl);obtain⟨-,rfl,-⟩:=hd;unfold a8 at*;go_wp2_with fail;exact⟨rfl,HF⟩
 have Jk:=Jc.go z2 t2;go_wp2_with fail;have Ju:Hid (SB C m B w v w1 v (R++[]) z):=by rw[List.append_nil];exact Jk
 clear Jk Jc Jm Jl;go_loopg[1] n (fun gk u wr=>∃(R2:List SV) (y:PS),gk<=n/\Pa (ai C.l) gk (.bs (R2.map SV.s)) y (.s a) s1/\SB C m B w v wr u (R++R2) y)
 case atStart=>exact⟨[],z,n_,Jo,Ju⟩
 case round=>
  obtain⟨R2,y,Jh,hp,hS⟩:=hrel;obtain⟨HI,HS⟩:=h2 (Jp.out _ _ hS.st) hS;rcases nY hp with⟨h0,-⟩|⟨-,hi,ha,rfl⟩|⟨-,hi,k,b,y1,rfl,Jg,Ja⟩
  ·exact absurd (dB hS.st.al) h0
  ·rw[hi]at HI;obtain⟨Jx,HA⟩:=h2 (Jq.out _ _ hS.st Jw) ha;clear hp Jh hS hi ha;go_wp2_with fail;refine HI.out.mono ?_;rintro e w9 ⟨rfl,hw⟩;rw[hw];have hS:=HS.out;go_wp2_with fail;refine(Jx).mono (fun e w5 hg=>?_);rcases hg.symm with hd|⟨-,rfl,z2,t2⟩
   ·have HF:Hid (gg C m w B v R a (cO (ai C.l) [125] s1) e w5):=hS.die hd (Dm.refl _);obtain⟨-,rfl,-⟩:=hd;unfold a8 at*;go_wp2_with fail;exact⟨rfl,HF⟩
   have Jd:=hS.go z2 t2;clear z2 t2;go_wp2_with fail;have HF:=ah (Jd.fin HA.out.symm);go_ret;exact HF
  ·rw[hi]at HI;have Je:(R++R2).length+fJ b<=1000000:=by
    have h1:=Ja.acc;simp only[PT.acc,PR.sz,szS_app]at h1;have h2:=ei (R2.map SV.s);rw[List.length_map]at h2;have h3:=Jv.out;rw[l_a];omega
   have Ji:k<=n:=o_;have HC:=ah (Jt.out _ _ _ _ b y1 (Pa.ups Ji Jg) hS Je);have Jr:Hid (Dm (ai C.l) y1 (cO (ai C.l) [125] s1)):=Ja.dm.trans (bG _ _);have Jb:Hid (∀W u Q,Q.map SV.s=b->SB C m B w v W u (R++R2++Q) y1->∃(R3:List SV) (y':PS),k<=n/\Pa (ai C.l) k (.bs (R3.map SV.s)) y' (.s a) s1/\SB C m B w v W u (R++R3) y'):=fun W u Q hq h=>⟨R2++Q,y1,Ji,by rw[List.map_append,hq];exact Ja,by rw[<-List.append_assoc];exact h⟩;clear hp Jh hS hi Jg Ja Je;go_wp2_with fail;refine HI.out.mono ?_;rintro e w9 ⟨rfl,hw⟩;rw[hw];have hS:=HS.out;go_wp2_with fail;refine(HC).mono (fun e w5 hg=>?_);rcases hg.symm with hd|⟨-,u5,Q,rfl,Js,hn⟩
   ·have HF:Hid (gg C m w B v R a (cO (ai C.l) [125] s1) e w5):=hS.die hd (Jr);obtain⟨-,rfl,-⟩:=hd;unfold a8 at*;go_wp2_with fail;exact⟨rfl,HF⟩
   have Jd:=hS.then hn;clear hn;have HF:=ah (Jb.out _ _ Q Js Jd);go_wp2;go_roundg k
   case measure=>omega
   case rel=>exact HF
section
variable{ln rl bl:Nat}
theorem SB.putA{C:RC}{m:TV}{B:Nat}{w0 w:World}{v0 v:Value}{R Q:List SV}{q q':SV}{s:PS}(h:SB C m B w0 v0 w v (R++[q]++Q) s)(i:Nat)(x:Int)(hi:i<6)(hq:aY q'=(aY q).set i (.int .i64 x))(hk:q'.ke=q.ke/\q'.kf=q.kf/\q'.ve=q.ve/\q'.vf=q.vf/\q'.s.e=q.s.e/\q'.s.f=q.s.f):
  ∃g c ln,v=.slice (some ⟨g,0,none⟩) ln c/\ln=R.length+1+Q.length/\w.cell? ⟨g,R.length*6+i,none⟩=(aY q)[i]? /\ w.frozen? ⟨g,R.length*6+i,none⟩=false/\SB C m B w0 v0 (w.setCell ⟨g,R.length*6+i,none⟩ (.int .i64 x)) v (R++[q']++Q) s:=by
 have hj:R.length<(R++[q]++Q).length:=by simp only[l_a,List.length_singleton];omega
 have e:(R++[q]++Q)[R.length]=q:=i_;have es:(R++[q]++Q).set R.length q'=R++[q']++Q:=by
  rw[List.append_assoc,List.set_append_right _ _ n_];simp
 obtain⟨g,c,h1,h2,h3,h4⟩:=h.put R.length i q' x hj hi (by rw[e];exact hq) (by rw[e];exact hk);rw[e]at h2;rw[es]at h4;exact⟨g,c,_,h1,by simp only[l_a,List.length_singleton],h2,h3,h4⟩
theorem n9(h:ln=rl+1+bl):(ln:Int)-(rl:Int)=(bl:Int)+1:=by omega
theorem Ai{bh cl:Nat}(h:ln=bh+cl):(ln:Int)-(bh:Int)=(cl:Int):=by omega
theorem od(h:ln=rl+1+bl):(0:Int)<=(rl:Int)/\(rl:Int)<(ln:Int):=by omega
end
theorem D7{C:RC}(HN:gW C){n:Nat}(Xc:CS C n)(Xe:Du C n){w:World}{m:TV}{B:Nat}{s:PS}{v:Value}{R:List SV}{a:List Nd}{b:List St}{s1 s2:PS} (hS:bj C m w s.ad)(hr:cD B w v R)(Xd:C.P+1<B)(Xb:B<=w.heap.size)(hp:Pa (ai C.l) n (.pr [40] [41]) s.ad (.n a) s1)(hb:Pa (ai C.l) n .bl s1 (.s b) s2)(hl:R.length+a.length+fJ b+1<=1000000)(he:aC (ai C.l) [101,108,115,101] s2=false):Calls prog 179 #[.pointer (some ⟨C.P,0,none⟩),v] w (gg C m w B v R (⟨4,tx [],a,[],(b.length:Int),0⟩::b) s2):=by
 obtain⟨av,cv,rfl⟩:=hr.shape;have Ja:=SB.start hS hr Xd Xb;have Xa:=ah fun W (h:bj C m W s2)=>cY HN h [101,108,115,101] d_;have Jx:=ah fun W (h:bj C m W s.ad)=>Xc W m s.ad [40] [41] a s1 d_ d_ hp h o_;have J_:=ah fun W u Q y b y1 (hp:Pa (ai C.l) n .bl y (.s b) y1) (h:SB C m B w (.slice av R.length cv) W u Q y) (hl:Q.length+fJ b<=1000000)=>Xe W m B y u Q b y1 hp h.st h.row h.pb h.le hl;have Jv:Hid (Dm (ai C.l) s1 s2):=hb.dm;have Js:Hid (Dm (ai C.l) s2 s2):=Dm.refl _;have Ju:=ah hb;have Xg:=ei b;go_enter func179,ntmps179;go_wp2_with fail;have HC:=ah (Jx.out w Ja.st);have ho:=Ja.old;have Jq:=Ja.le;refine(HC).mono (fun e w3 hg=>?_);rcases hg.symm with hd|⟨-,u3,rfl,hn⟩
 ·have HF:Hid (gg C m w B (.slice av R.length cv) R (⟨4,tx [],a,[],(b.length:Int),0⟩::b) s2 e w3):=Ja.die hd (Jv);obtain⟨-,rfl,-⟩:=hd;unfold a8 at*;go_wp2_with fail;exact⟨rfl,HF⟩
 obtain⟨Jk,Jg⟩:=Ja.fr hn;obtain⟨Jc,Jb,rfl,-⟩:=au Jg;clear hn;obtain⟨W4,Jl⟩:=q_ (w3.alloc (.cells #[.int .i64 4,.string (⟨#[]⟩),.slice Jc a.length Jb,.slice none 0 0,.int .i64 0,.int .i64 0] 46));obtain⟨B4,Jp⟩:=q_ w3.heap.size;obtain⟨K4,u4,w4,r4,f4⟩:=Jk.lit (w1:=w) 4 (⟨#[]⟩) Jg ho Jq Jl Jp o_;obtain⟨Jw,Jr,Jz,Jn⟩:=h4 Jl Jp r4 (J_.out w4 u4 _ s1 b s2 Ju.out f4 (by rw[l_a,List.length_singleton];omega));have Ji:=f4;clear f4 Jk Ja Jg HC;go_wp2_with(at_builtin;rw[<-Jw.out,<-Jr.out];refine ao rfl _ _ _ rfl _ _ u4 w4 rfl rfl Jz.out ?_);refine(Jn).mono (fun e w5 hg=>?_);rcases hg.symm with hd|⟨-,u5,Q,rfl,Jf,hn⟩
 ·have HF:Hid (gg C m w B (.slice av R.length cv) R (⟨4,tx [],a,[],(b.length:Int),0⟩::b) s2 e w5):=Ji.die hd (Js);obtain⟨-,rfl,-⟩:=hd;unfold a8 at*;go_wp2_with fail;exact⟨rfl,HF⟩
 have Jo:=Ji.then hn;obtain⟨g,gc,ln,rfl,Je,Jm,Xh,hX⟩:=Jo.putA (q':=⟨⟨4,tx [],a,[],(b.length:Int),0⟩,.slice Jc a.length Jb,.slice none 0 0,K4,[]⟩) 4 (b.length:Int) d_ rfl ⟨rfl,rfl,rfl,rfl,rfl,rfl⟩;have Jj:Q.length=b.length:=by rw[<-Jf,List.length_map]
 have e4:(ln:Int)-(R.length:Int)=(b.length:Int)+1:=n9 (Je.trans (by rw[Jj]));obtain⟨i0,i1⟩:=od Je;have Jy:w5.cell? ⟨g,R.length*6+4,none⟩=some (.int .i64 0):=Jm;obtain⟨X6,Jh⟩:=q_ (w5.setCell ⟨g,R.length*6+4,none⟩ (.int .i64 (b.length:Int)));rw[<-Jh]at hX;obtain⟨Jt,HQ,Xf⟩:=h3 Jh Jf Jj;clear Jh Jm Je Jo Ji Jf Jj Jn;go_upto_region 4 with fail;rw[<-Jt.out];have HK:=ah (Xa.out X6 hX.st);have hF:gg C m w B (.slice av R.length cv) R (⟨4,tx [],a,[],(b.length:Int),0⟩::b) s2 (.returned (.slice (some ⟨g,0,none⟩) ln gc)) X6:=by
  rw[List.append_assoc]at hX;exact hX.fin (by rw[List.map_append,HQ.out];rfl)
 have HF:=ah hF;clear hX hF;go_wp2_with fail;refine(HK).mono (fun e w9 hg=>?_);rcases hg.symm with⟨Jd,-⟩|⟨-,rfl,hw⟩
 ·rw[he]at Jd;cases Jd
 rw[hw];go_wp2;go_ret;exact HF
theorem D8{C:RC}(HN:gW C){n:Nat}(Xe:CS C n)(Xg:Du C n){w:World}{m:TV}{B:Nat}{s:PS}{v:Value}{R:List SV}{a:List Nd}{b:List St}{s1 s2:PS}{c:List St}{s':PS}(hS:bj C m w s.ad)(hr:cD B w v R)(Xf:C.P+1<B)(Xd:B<=w.heap.size)(hp:Pa (ai C.l) n (.pr [40] [41]) s.ad (.n a) s1)(hb:Pa (ai C.l) n .bl s1 (.s b) s2)(hl:R.length+a.length+fJ b+fJ c+1<=1000000)(he:aC (ai C.l) [101,108,115,101] s2=true)(hc:Pa (ai C.l) n .bl s2.ad (.s c) s'):Calls prog 179 #[.pointer (some ⟨C.P,0,none⟩),v] w (gg C m w B v R (⟨4,tx [],a,[],(b.length:Int),(c.length:Int)⟩::(b++c)) s'):=by
 obtain⟨av,cv,rfl⟩:=hr.shape;have Je:=SB.start hS hr Xf Xd;have Xn:=ah fun W (h:bj C m W s2)=>cY HN h [101,108,115,101] d_;have Xw:=ah fun W (h:bj C m W s.ad)=>Xe W m s.ad [40] [41] a s1 d_ d_ hp h o_;have Jw:=ah fun W u Q y b y1 (hp:Pa (ai C.l) n .bl y (.s b) y1) (h:SB C m B w (.slice av R.length cv) W u Q y) (hl:Q.length+fJ b<=1000000)=>Xg W m B y u Q b y1 hp h.st h.row h.pb h.le hl;have Xx:Hid (Dm (ai C.l) s2.ad s'):=hc.dm;have Jx:Hid (Dm (ai C.l) s2 s'):=Dm.no (cL he).1;have Xl:Hid (Dm (ai C.l) s1 s'):=hb.dm.trans Jx;obtain⟨Xv,Xr⟩:=h2 hb hc;have X_:=ei b;have Xz:=ei c;clear Xe Xg hp hb hc HN hS hr Xf Xd;go_enter func179,ntmps179;go_wp2_with fail;have HC:=ah (Xw.out w Je.st);have ho:=Je.old;have Xi:=Je.le;refine(HC).mono (fun e w3 hg=>?_);rcases hg.symm with hd|⟨-,u3,rfl,hn⟩
 ·have HF:Hid (gg C m w B (.slice av R.length cv) R (⟨4,tx [],a,[],(b.length:Int),(c.length:Int)⟩::(b++c)) s' e w3):=Je.die hd (Xl);obtain⟨-,rfl,-⟩:=hd;unfold a8 at*;go_wp2_with fail;exact⟨rfl,HF⟩
 obtain⟨Xa,Jq⟩:=Je.fr hn;obtain⟨Ja,Jb,rfl,-⟩:=au Jq;clear hn;obtain⟨W4,Jo⟩:=q_ (w3.alloc (.cells #[.int .i64 4,.string (⟨#[]⟩),.slice Ja a.length Jb,.slice none 0 0,.int .i64 0,.int .i64 0] 46));obtain⟨B4,Jn⟩:=q_ w3.heap.size;obtain⟨K4,u4,w4,r4,f4⟩:=Xa.lit (w1:=w) 4 (⟨#[]⟩) Jq ho Xi Jo Jn o_;obtain⟨Xq,Xt,Xm⟩:=h3 Jo Jn r4;clear Jo Jn r4;have Xc:=ah (Jw.out w4 u4 _ s1 b s2 Xv.out f4 (by rw[l_a,List.length_singleton];omega));have Jt:=f4;clear f4 Xa Je Jq HC;go_wp2_with(at_builtin;rw[<-Xq.out,<-Xt.out];refine ao rfl _ _ _ rfl _ _ u4 w4 rfl rfl Xm.out ?_);refine(Xc).mono (fun e w5 hg=>?_);rcases hg.symm with hd|⟨-,u5,Q,rfl,Jp,hn⟩
 ·have HF:Hid (gg C m w B (.slice av R.length cv) R (⟨4,tx [],a,[],(b.length:Int),(c.length:Int)⟩::(b++c)) s' e w5):=Jt.die hd (Jx);obtain⟨-,rfl,-⟩:=hd;unfold a8 at*;go_wp2_with fail;exact⟨rfl,HF⟩
 have J_:=Jt.then hn;clear hn;obtain⟨g,gc,ln,rfl,Jh,Xb,Xh,hX⟩:=J_.putA (q':=⟨⟨4,tx [],a,[],(b.length:Int),0⟩,.slice Ja a.length Jb,.slice none 0 0,K4,[]⟩) 4 (b.length:Int) d_ rfl ⟨rfl,rfl,rfl,rfl,rfl,rfl⟩;have Ju:Q.length=b.length:=by rw[<-Jp,List.length_map]
 have e4:(ln:Int)-(R.length:Int)=(b.length:Int)+1:=n9 (Jh.trans (by rw[Ju]));obtain⟨i0,i1⟩:=od Jh;have Jm:w5.cell? ⟨g,R.length*6+4,none⟩=some (.int .i64 0):=Xb;obtain⟨X6,Jr⟩:=q_ (w5.setCell ⟨g,R.length*6+4,none⟩ (.int .i64 (b.length:Int)));have Xk:=ah Jh;rw[<-Jr]at hX;obtain⟨Xp,HQ,Xj⟩:=h3 Jr Jp Ju;clear Jr Xb Jh J_ Jt Jp Ju Xc;go_upto_region 4 with fail;rw[<-Xp.out];clear Jm Xh;have HK:=ah (Xn.out X6 hX.st);go_wp2_with fail;refine(HK).mono (fun e w7 hg=>?_);rcases hg with⟨Jf,-⟩|⟨-,hg⟩
 ·rw[he]at Jf;cases Jf
 rcases hg.symm with hd|⟨-,rfl,z2,t2⟩
 ·have HF:Hid (gg C m w B (.slice av R.length cv) R (⟨4,tx [],a,[],(b.length:Int),(c.length:Int)⟩::(b++c)) s' e w7):=hX.die hd (Xx);obtain⟨-,rfl,-⟩:=hd;unfold a8 at*;go_wp2_with fail;exact⟨rfl,HF⟩
 have Ji:=hX.go z2 t2;clear z2 t2 hX HK;have Jy:=ah (Jw.out w7 _ _ s2.ad c s' Xr.out Ji (by have h1:=Xj.out;simp only[l_a,List.length_singleton];omega));clear e4 i0 i1;go_wp2_with fail;refine(Jy).mono (fun e w8 hg=>?_);rcases hg.symm with hd|⟨-,u8,Q2,rfl,Jd,hn⟩
 ·have HF:Hid (gg C m w B (.slice av R.length cv) R (⟨4,tx [],a,[],(b.length:Int),(c.length:Int)⟩::(b++c)) s' e w8):=Ji.die hd (Dm.refl _);obtain⟨-,rfl,-⟩:=hd;unfold a8 at*;go_wp2_with fail;exact⟨rfl,HF⟩
 have Jz:=Ji.then hn;clear hn;have Jg:SB C m B w (.slice av R.length cv) w8 u8 (R++[⟨⟨4,tx [],a,[],(b.length:Int),0⟩,.slice Ja a.length Jb,.slice none 0 0,K4,[]⟩]++(Q++Q2)) s':=by rw[<-List.append_assoc];exact Jz
 obtain⟨g2,Xy,Jk,rfl,Jc,Jv,Xo,Jj⟩:=Jg.putA (q':=⟨⟨4,tx [],a,[],(b.length:Int),(c.length:Int)⟩,.slice Ja a.length Jb,.slice none 0 0,K4,[]⟩) 5 (c.length:Int) d_ rfl ⟨rfl,rfl,rfl,rfl,rfl,rfl⟩;have Xs:Q2.length=c.length:=by rw[<-Jd,List.length_map]
 have e5:(Jk:Int)-(ln:Int)=(c.length:Int):=Ai (ln:=Jk) (bh:=ln) (cl:=c.length) (by have:=Xk.out;rw[l_a]at Jc;omega);obtain⟨i0,i1⟩:=od Jc;have Js:w8.cell? ⟨g2,R.length*6+5,none⟩=some (.int .i64 0):=Jv;obtain⟨X9,Jl⟩:=q_ (w8.setCell ⟨g2,R.length*6+5,none⟩ (.int .i64 (c.length:Int)));rw[<-Jl]at Jj;have hF:gg C m w B (.slice av R.length cv) R (⟨4,tx [],a,[],(b.length:Int),(c.length:Int)⟩::(b++c)) s' (.returned (.slice (some ⟨g2,0,none⟩) Jk Xy)) X9:=by
  rw[List.append_assoc]at Jj;exact Jj.fin (by rw[List.map_append,List.map_append,HQ.out,Jd];rfl)
 obtain⟨HF,Xu⟩:=h2 hF Jl;clear Jj hF Jl Jv Jc Jz Jg Jd Xs Ji Jy;go_upto_region 8 with fail;rw[<-Xu.out];clear Js Xo;go_wp2;go_ret;exact HF
theorem A8{C:RC}(HN:gW C){n:Nat}{w:World}{m:TV}{B:Nat}{s:PS}{v:Value}{R:List SV}{r:List St}{s':PS}(hS:bj C m w s)(hr:cD B w v R)(Jk:C.P+1<B)(Jj:B<=w.heap.size)(hi:aC (ai C.l) [105,102] s=true)(Ji:Dm (ai C.l) s.ad s')(hC:∀W,SB C m B w v W v R s.ad->Calls prog 179 #[.pointer (some ⟨C.P,0,none⟩),v] W (gg C m W B v R r s')):Calls prog 158 #[.pointer (some ⟨C.P,0,none⟩),v] w (gg C m w B v R r s'):=by
 have Jc:=SB.start hS hr Jk Jj;have Jd:=ah fun x (hx:dV x=true)=>cY HN hS x hx;have p2:=hS.cki;have e1:(dF (ai C.l s.i) == 1)=false:=by rw[jl hS d_ hi];rfl
 have h1:aC (ai C.l) [105,110,116] s=false:=bE hi d_;obtain⟨Jf,Jh⟩:=h2 hC Ji;generalize dF (ai C.l s.i)=ki at*;go_enter func158,ntmps158;go_wp2_with fail;refine(Jd.out [105,110,116] d_).mono (fun e w9 hg=>?_);rcases hg.symm with⟨Ja,-⟩|⟨-,rfl,hw⟩
 ·rw[h1]at Ja;cases Ja
 rw[hw];go_wp2_with fail;refine(Jd.out [105,102] d_).mono (fun e w2 hg=>?_);rcases hg with⟨Ja,-⟩|⟨-,hg⟩
 ·rw[hi]at Ja;cases Ja
 rcases hg.symm with hd|⟨-,rfl,z2,t2⟩
 ·have HF:Hid (gg C m w B v R r s' e w2):=Jc.die hd (Jh);obtain⟨-,rfl,-⟩:=hd;unfold a8 at*;go_wp2_with fail;exact⟨rfl,HF⟩
 have Jb:=Jc.go z2 t2;go_wp2_with fail;have HC:=ah (Jf.out w2 Jb);refine(HC).mono (fun e w3 hg=>?_);rcases hg.symm with hd|⟨-,u3,Q,rfl,Jg,hn⟩
 ·have HF:Hid (gg C m w B v R r s' e w3):=Jb.die hd (Dm.refl _);obtain⟨-,rfl,-⟩:=hd;unfold a8 at*;go_wp2_with fail;exact⟨rfl,HF⟩
 have Je:=Jb.then hn;have HF:=ah (Je.fin Jg);go_wp2;go_ret;exact HF
section
variable{C:RC}{m m':TV}{w W W':World}{M B:Nat}{z:PS}{t:Tr}
theorem BI.nw(cs:Array Value)(T:TypeId)(h0:0<cs.size)(hc:cs.size<=10)(hS:bj C m w z)(hW:W=w.alloc (.cells cs T))(hM:M=w.heap.size):BI C m w M cs.toList W z:=by
 have hb:Bl w W:=by rw[hW];exact r_.alloc n_ _
 have hx:aR W M cs.toList:=by rw[hW,hM];exact aJ w cs _ o_
 have h0:0<cs.toList.length:=by rw[Array.length_toList];omega
 exact⟨hS.below hb,hx,(am.refl _ _).of_below hb,b_ (hx 0 _ (List.getElem?_eq_getElem h0)).1,by rw[hM];exact n_,hS.lt⟩
theorem bj.setm(h:bj C m w z)(i:Nat)(u:Value)(he:∀pos kd tt vl pl op,(C.box pos kd tt vl pl m op).set i u=C.box pos kd tt vl pl m' op):bj C m' (w.setCell ⟨C.P,i,none⟩ u) z/\am (fun k=>k=C.P) w (w.setCell ⟨C.P,i,none⟩ u):=by
 obtain⟨tt,vl,h1,h2⟩:=h.bx;obtain⟨h3,h4⟩:=h1.put h.ok i u (he _ _ _ _ _ _);exact⟨⟨h.ok,h.al,h.wf,h.op,tt,vl,h3,h2⟩,h4⟩
theorem bj.q(h:bj C m w z):(w.cell? ⟨C.P,6,none⟩=some m.vg/\w.frozen? ⟨C.P,6,none⟩=false)/\(w.cell? ⟨C.P,7,none⟩=some m.vf/\w.frozen? ⟨C.P,7,none⟩=false)/\(w.cell? ⟨C.P,9,none⟩=some (.bool m.nz)/\w.frozen? ⟨C.P,9,none⟩=false):=by
 obtain⟨tt,vl,h1,h2⟩:=h.bx;exact⟨h1.box 6 _ rfl,h1.box 7 _ rfl,h1.box 9 _ rfl⟩
theorem BI.setm{w0:World}{xs:List Value}(h:BI C m w0 M xs W z)(i:Nat)(u:Value)(he:∀pos kd tt vl pl op,(C.box pos kd tt vl pl m op).set i u=C.box pos kd tt vl pl m' op)(hW:W'=W.setCell ⟨C.P,i,none⟩ u):BI C m' w0 M xs W' z:=by
 obtain⟨h1,h2⟩:=h.st.setm i u he;rw[<-hW]at h1 h2;exact⟨h1,h.bx.tcs h.m h2 (fun e=>h.ne e.symm),h.t.trans h2,l_ h.m h2.size,h.mw,h.hl⟩
theorem lP{W7:World}{nm:ByteArray}{v:Int}{t':Tr}{Q:List FV}{b:Nat}(h:BI C m' w M [.string nm,.int .i64 v] W z)(hJ:Fl B w m t t' Q)(hm:m'.vg=m.vg/\m'.vf=m.vf)(g:Gl)(h1:m'.nz=false->m.nz=false/\g=⟨nm,v⟩)(h2:m'.nz=true->m.nz=true∨g.size= -1)(Jc:C.P+1<B)(hB:B<=w.heap.size)(hl:t.globals.length<=100000)
  (hb:Below W.heap.size W W') (hW:W7=W'.alloc (.cells #[.string nm,.int .i64 v] 74)) (Jf:b=W'.heap.size):
  ∃v8 W8,(Builtin.append_ #[23,23] 23 #[m'.vg,.slice (some ⟨b,0,none⟩) 1 1]).run prog W7=.ok v8 W8/\(∃a n c,v8=.slice a n c)/\aR W7 M [.string nm,.int .i64 v]/\W7.cell? ⟨C.P,6,none⟩=some m'.vg/\aR W8 M [.string nm,.int .i64 v]/\(W8.cell? ⟨C.P,6,none⟩=some m'.vg/\W8.frozen? ⟨C.P,6,none⟩=false)/\jH C B w (ci t (.inl g)) z (.returned (.tuple #[])) (W8.setCell ⟨C.P,6,none⟩ v8):=by
 have h':=h.below hb;obtain⟨v8,W8,r1,r2,r3,r4⟩:=hJ.own.addG ⟨nm,v⟩ h'.t (fun k hk=>by rw[hk];have:=Jc;omega) hB hW Jf (by rw[hJ.len];exact hl);have Jb:∀k,m.vg.ownBlock=some k->B<=k/\k<w.heap.size:=fun k hk=>World.ownsRow.lt hJ.own.gs k hk;have Jg:=h.st.ok.hi;have Jh:=h.mw;have Ja:bj C m' W8 z:=h'.st.tcs r2 (fun e=>by have:=(Jb _ e).1;omega) (fun k hk=>by have:=(Jb k hk).1;omega);have Jd:=h'.bx.tcs h'.m r2 (fun e=>by have:=(Jb _ e).2;omega);have Je:Bl W' W7:=by rw[hW];exact r_.alloc n_ _
 have h7:=h'.below Je;obtain⟨s9,t9⟩:=Ja.setm (m':= {m' with vg:=v8}) 6 v8 (fun _ _ _ _ _ _=>rfl);rw[hm.1];refine⟨v8,W8,r1,r3,h7.bx,by rw[<-hm.1];exact h7.st.q.1.1,Jd,by rw[<-hm.1];exact Ja.q.1,.inl ⟨h.st.al,_,rfl,s9,⟨⟨t'.globals++[⟨nm,v⟩],t'.funcs⟩,Q,?_,?_,?_,?_,?_⟩,?_⟩⟩
 ·have:=r4.tcs t9 (fun k hk=>by rw[hk];have:=Jc;omega)
  rw[<-hm.2]at this;exact this
 ·exact hJ.fu
 ·simp only[ci,l_a,List.length_singleton,hJ.len]
 ·intro hz;obtain⟨e1,e2⟩:=h1 hz;simp only[ci,hJ.eq e1,e2]
 ·intro hz;rcases h2 hz with e|e
  ·obtain⟨x,hx,e2⟩:=hJ.bad e;exact⟨x,List.mem_append.2 (.inl hx),e2⟩
  ·exact⟨g,List.mem_append.2 (.inr i_),e⟩
 ·exact(((h'.t.mono fun k hk=>.inl hk).trans (r2.mono fun k hk=>.inr (Jb k hk).1)).trans (t9.mono fun k hk=>.inl hk))
theorem Aj(HN:gW C){s:PS}(nm:ByteArray)(hS:bj C m w s)(hT:sJ B w m t)(Jk:C.P+1<B)(hB:B<=w.heap.size)(hl:t.globals.length<=100000)(hi:aC (ai C.l) [91] s=false):
  Calls prog 96 #[.pointer (some ⟨C.P,0,none⟩),.string nm] w (jH C B w (ci t (.inl ⟨nm,0⟩)) (bq (ai C.l) [59] s)):=by
 obtain⟨t',Q,hJ⟩:=hT;obtain⟨W1,Jd⟩:=q_ (w.alloc (.cells #[.string nm,.int .i64 0] 74));obtain⟨M,eM⟩:=q_ w.heap.size;have h1:=BI.nw #[.string nm,.int .i64 0] 74 (show 0<2 by omega) (show 2<=10 by omega) hS Jd eM;have Jc:=ah (du h1.st [91] d_);rw[hi]at Jc;have Jl:=hS.op;obtain⟨HJ,HB,Jn,HM⟩:=h4 hJ (And.intro Jk (And.intro hB hl)) Jd eM;have Js:=ah fun W z (h:bj C m W z)=>dt HN h [59] d_;clear Jd eM hS hJ Jk hB hl HN Jl;have h1:BI C m w M [.string nm,.int .i64 0] W1 s:=h1;go_enter func96,ntmps96;go_upto_region 1 with fail;rw[<-Jn.out,<-HM.out];go_wp2_with fail;refine Jc.out.mono ?_;rintro e w2 ⟨rfl,hw⟩;rw[hw];clear hw Jc;go_wp2_with fail;refine(Js.out W1 s h1.st).mono (fun e w5 hg=>?_);rcases hg.symm with hd|⟨-,rfl,z2,t2⟩
 ·have HF:Hid (jH C B w (ci t (.inl ⟨nm,0⟩)) (bq (ai C.l) [59] s) e w5):=.inr (hd.later (Dm.refl _) h1.bb);obtain⟨-,rfl,-⟩:=hd;unfold a8 at*;go_wp2_with fail;exact⟨rfl,HF⟩
 have h5:=h1.go z2 t2;clear z2 t2;obtain⟨W6,Jg⟩:=q_ w5.drew;have Jb:Bl w5 W6:=by rw[Jg];exact dD w5
 obtain⟨W7,Jf⟩:=q_ (W6.alloc (.cells #[.string nm,.int .i64 0] 74));obtain⟨b7,Je⟩:=q_ W6.heap.size;obtain⟨v8,W8,r8,Jq,x7,c7,x8,c8,hF⟩:=lP h5 HJ.out ⟨rfl,rfl⟩ ⟨nm,0⟩ (fun hz=>⟨hz,rfl⟩) (fun hz=>.inl hz) HB.out.1 HB.out.2.1 HB.out.2.2 Jb Jf Je;obtain⟨va,vn,vc,rfl⟩:=Jq;have h6:=h5.below Jb;have Jo:∃ga gn gc,m.vg=.slice ga gn gc:=by
  obtain⟨a,c,e,-⟩:=au HJ.out.own.gs;exact⟨_,_,_,e⟩
 obtain⟨ga,gn,gc,Ji⟩:=Jo;have c6:=h6.st.q.1.1;try dsimp only at c6 c7 c8 r8
 rw[Ji]at c6 c7 c8 r8;obtain⟨HS,Jj,Ja,Jh,Jp,Jt,Jr,Jm,HF⟩:=h9 (And.intro c6 (And.intro (h6.bx 0 _ rfl).1 (h6.bx 1 _ rfl).1)) (And.intro c7 (And.intro (x7 0 _ rfl).1 (x7 1 _ rfl).1)) (And.intro c8.1 (And.intro (x8 0 _ rfl).1 (x8 1 _ rfl).1)) c8 r8 Jg Jf Je hF;clear Jg Jf Je r8 x7 c7 x8 c8 hF h6 c6 Jb h5 Ji;go_upto_region 7 with fail;refine aX 12 (fun X=>X.cell? ⟨C.P,6,none⟩=some (.slice ga gn gc)/\X.cell? ⟨M,0,none⟩=some (.string nm)/\X.cell? ⟨M,1,none⟩=some (.int .i64 0)) k_ ?_;rw[<-Jt.out];refine tk 0 [9,10,11,12] HS.out ?_;refine tk 1 [2,3,4,5,8,12] HS.out ?_;refine tk 2 [3,4,5,8,12] HS.out ?_;refine tk 3 [4,5,8,12] HS.out ?_;refine tk 4 [5,8,12] HS.out ?_;refine tk 5 [8,12] HS.out ?_;refine tk 6 [7,8,12] HS.out ?_;clear HS;refine aw (i:=7) k_ rfl (fun K hK=>?_);go_simp;rw[<-Jr.out,<-Jm.out];refine hK.out _ _ (fun _=>Jj) ?_;clear hK K;try simp only[Act.put,tA,tB,tC]
 refine aw (i:=8) k_ rfl (fun K hK=>?_);refine bm rfl (.tmp 41) (.tmp 43) 23 rfl (.slice ga gn gc) (.slice (some ⟨b7,0,none⟩) 1 1) (.slice va vn vc) W8 rfl rfl Jp.out ?_;refine hK.out _ _ (fun _=>Ja) ?_;clear hK K Jj;try simp only[Act.put,tA,tB,tC]
 refine tk 9 [10,11,12] Ja.out ?_;refine tk 10 [11,12] Ja.out ?_;refine tk 11 [12] Ja.out ?_;clear Ja;have Ju:=Jh.out.1;have Jv:=Jh.out.2;refine aw (i:=12) k_ rfl (fun K hK=>?_);go_simp;refine hK.out _ _ (fun h=>absurd rfl h) ?_;clear hK K;refine aP k_ ?_ _;go_wp2_with fail;refine bodyPost_ret (results_none rfl _ _ _) rfl ?_;exact HF
end
end Go.Proofs.YtlamjfhhefcohaaGreatDoor
