import Derived.Test.YtlamjfhhefcohaaGreatDoorP36
set_option linter.unusedSectionVars false
variable [Inhabited Go.Proofs.YtlamjfhhefcohaaGreatDoor.Pick]
namespace Go.Proofs.YtlamjfhhefcohaaGreatDoor
open Go.Proofs.Tryz
open Go.RowKit
set_option linter.all false
set_option maxRecDepth 100000
set_option maxHeartbeats 16000000
theorem C3{C:RC}(HN:gW C){n:Nat}(Jr:D4 C n){w:World}{m:TV}{B:Nat}{s:PS}{v:Value}{R:List SV}{a:List Nd}{s1:PS}(hS:bj C m w s)(hr:cD B w v R)(Js:C.P+1<B)(Jq:B<=w.heap.size)(hl:R.length+a.length+1<=1000000)(hi:aC (ai C.l) [114,101,116,117,114,110] s=true)(hp:Pa (ai C.l) n (.e 1) s.ad (.n a) s1):Calls prog 158 #[.pointer (some ⟨C.P,0,none⟩),v] w (gg C m w B v R [⟨6,tx [],a,[],0,0⟩] (bq (ai C.l) [59] s1)):=by
 have Jg:=SB.start hS hr Js Jq;have Jc:=ah fun x (hx:dV x=true)=>cY HN hS x hx;have p2:=hS.cki;have e1:(dF (ai C.l s.i) == 1)=false:=by rw[jl hS d_ hi];rfl
 have h1:aC (ai C.l) [105,110,116] s=false:=bE hi d_;have h2:aC (ai C.l) [105,102] s=false:=bE hi d_;have h3:aC (ai C.l) [119,104,105,108,101] s=false:=bE hi d_;have Jm:=ah fun W (h:bj C m W s.ad)=>Jr W m s.ad a s1 hp h o_;have Jp:Hid (Dm (ai C.l) s.ad (bq (ai C.l) [59] s1)):=hp.dm.trans (bQ _ _);generalize dF (ai C.l s.i)=ki at*;go_enter func158,ntmps158;go_wp2_with fail;refine(Jc.out [105,110,116] d_).mono (fun e w9 hg=>?_);rcases hg.symm with⟨Ja,-⟩|⟨-,rfl,hw⟩
 ·rw[h1]at Ja;cases Ja
 rw[hw];go_wp2_with fail;refine(Jc.out [105,102] d_).mono (fun e w9 hg=>?_);rcases hg.symm with⟨Ja,-⟩|⟨-,rfl,hw⟩
 ·rw[h2]at Ja;cases Ja
 rw[hw];go_wp2_with fail;refine(Jc.out [119,104,105,108,101] d_).mono (fun e w9 hg=>?_);rcases hg.symm with⟨Ja,-⟩|⟨-,rfl,hw⟩
 ·rw[h3]at Ja;cases Ja
 rw[hw];go_wp2_with fail;refine(Jc.out [114,101,116,117,114,110] d_).mono (fun e w2 hg=>?_);rcases hg with⟨Ja,-⟩|⟨-,hg⟩
 ·rw[hi]at Ja;cases Ja
 rcases hg.symm with hd|⟨-,rfl,z2,t2⟩
 ·have HF:Hid (gg C m w B v R [⟨6,tx [],a,[],0,0⟩] (bq (ai C.l) [59] s1) e w2):=Jg.die hd (Jp);obtain⟨-,rfl,-⟩:=hd;unfold a8 at*;go_wp2_with fail;exact⟨rfl,HF⟩
 have Jb:=Jg.go z2 t2;go_wp2_with fail;have HC:=ah (Jm.out w2 Jb.st);have ho:=Jb.old;have Jk:=Jb.le;refine(HC).mono (fun e w3 hg=>?_);rcases hg.symm with hd|⟨-,u3,rfl,hn⟩
 ·have HF:Hid (gg C m w B v R [⟨6,tx [],a,[],0,0⟩] (bq (ai C.l) [59] s1) e w3):=Jb.die hd (Dm.refl _);obtain⟨-,rfl,-⟩:=hd;unfold a8 at*;go_wp2_with fail;exact⟨rfl,HF⟩
 obtain⟨Jj,Jh⟩:=Jb.fr hn;obtain⟨Je,Jd,rfl,-⟩:=au Jh;obtain⟨W4,Jf⟩:=q_ (w3.alloc (.cells #[.int .i64 6,.string (⟨#[]⟩),.slice Je a.length Jd,.slice none 0 0,.int .i64 0,.int .i64 0] 46));obtain⟨B4,Ji⟩:=q_ w3.heap.size;obtain⟨K4,u4,w4,r4,f4⟩:=Jj.lit (w1:=w2) 6 (⟨#[]⟩) Jh ho Jk Jf Ji o_;obtain⟨Jn,Jl,Jo,HF⟩:=h4 Jf Ji r4 (f4.fin (a:=[⟨6,tx [],a,[],0,0⟩]) rfl);go_wp2_with(at_builtin;rw[<-Jn.out,<-Jl.out];refine ao rfl _ _ _ rfl _ _ u4 w4 rfl rfl Jo.out ?_);go_ret;exact HF
theorem yg{C:RC}(HN:gW C){n:Nat}(Jt:CS C n)(Jv:Du C n){w:World}{m:TV}{B:Nat}{s:PS}{v:Value}{R:List SV}{a:List Nd}{b:List St}{s1 s2:PS}(hS:bj C m w s)(hr:cD B w v R)(Ju:C.P+1<B)(Js:B<=w.heap.size)(hl:R.length+a.length+fJ b+1<=1000000)(hi:aC (ai C.l) [119,104,105,108,101] s=true)(hp:Pa (ai C.l) n (.pr [40] [41]) s.ad (.n a) s1)(hb:Pa (ai C.l) n .bl s1 (.s b) s2):Calls prog 158 #[.pointer (some ⟨C.P,0,none⟩),v] w (gg C m w B v R (⟨5,tx [],a,[],(b.length:Int),0⟩::b) s2):=by
 obtain⟨av,cv,rfl⟩:=hr.shape;have Jo:=SB.start hS hr Ju Js;have Jk:=ah fun x (hx:dV x=true)=>cY HN hS x hx;have p2:=hS.cki;have e1:(dF (ai C.l s.i) == 1)=false:=by rw[jl hS d_ hi];rfl
 have h1:aC (ai C.l) [105,110,116] s=false:=bE hi d_;have h2:aC (ai C.l) [105,102] s=false:=bE hi d_;have Xb:=ah fun W (h:bj C m W s.ad)=>Jt W m s.ad [40] [41] a s1 d_ d_ hp h o_;have Xf:=ah fun W u Q y b y1 (hp:Pa (ai C.l) n .bl y (.s b) y1) (h:SB C m B w (.slice av R.length cv) W u Q y) (hl:Q.length+fJ b<=1000000)=>Jv W m B y u Q b y1 hp h.st h.row h.pb h.le hl;have Xe:Hid (Dm (ai C.l) s.ad s2):=hp.dm.trans hb.dm;have J_:Hid (Dm (ai C.l) s1 s2):=hb.dm;have Xg:Hid (Dm (ai C.l) s2 s2):=Dm.refl _;have Jz:=ah hb;have Xi:=ei b;clear Jt Jv hp hb HN hS hr Ju Js;generalize dF (ai C.l s.i)=ki at*;go_enter func158,ntmps158;go_wp2_with fail;refine(Jk.out [105,110,116] d_).mono (fun e w9 hg=>?_);rcases hg.symm with⟨Ja,-⟩|⟨-,rfl,hw⟩
 ·rw[h1]at Ja;cases Ja
 rw[hw];go_wp2_with fail;refine(Jk.out [105,102] d_).mono (fun e w9 hg=>?_);rcases hg.symm with⟨Ja,-⟩|⟨-,rfl,hw⟩
 ·rw[h2]at Ja;cases Ja
 rw[hw];clear hw;go_wp2_with fail;refine(Jk.out [119,104,105,108,101] d_).mono (fun e w2 hg=>?_);rcases hg with⟨Ja,-⟩|⟨-,hg⟩
 ·rw[hi]at Ja;cases Ja
 rcases hg.symm with hd|⟨-,rfl,z2,t2⟩
 ·have HF:Hid (gg C m w B (.slice av R.length cv) R (⟨5,tx [],a,[],(b.length:Int),0⟩::b) s2 e w2):=Jo.die hd (Xe);obtain⟨-,rfl,-⟩:=hd;unfold a8 at*;go_wp2_with fail;exact⟨rfl,HF⟩
 have Jb:=Jo.go z2 t2;go_wp2_with fail;have HC:=ah (Xb.out w2 Jb.st);have ho:=Jb.old;have Jw:=Jb.le;refine(HC).mono (fun e w3 hg=>?_);rcases hg.symm with hd|⟨-,u3,rfl,hn⟩
 ·have HF:Hid (gg C m w B (.slice av R.length cv) R (⟨5,tx [],a,[],(b.length:Int),0⟩::b) s2 e w3):=Jb.die hd (J_);obtain⟨-,rfl,-⟩:=hd;unfold a8 at*;go_wp2_with fail;exact⟨rfl,HF⟩
 obtain⟨Jl,Jh⟩:=Jb.fr hn;obtain⟨Jd,Jc,rfl,-⟩:=au Jh;clear hn;obtain⟨W4,Jm⟩:=q_ (w3.alloc (.cells #[.int .i64 5,.string (⟨#[]⟩),.slice Jd a.length Jc,.slice none 0 0,.int .i64 0,.int .i64 0] 46));obtain⟨B4,Jr⟩:=q_ w3.heap.size;obtain⟨K4,u4,w4,r4,f4⟩:=Jl.lit (w1:=w2) 5 (⟨#[]⟩) Jh ho Jw Jm Jr o_;obtain⟨Xa,Jx,Xd,Jp⟩:=h4 Jm Jr r4 (Xf.out w4 u4 _ s1 b s2 Jz.out f4 (by rw[l_a,List.length_singleton];omega));have Jj:=f4;clear f4 Jl Jb Jh HC;go_wp2_with(at_builtin;rw[<-Xa.out,<-Jx.out];refine ao rfl _ _ _ rfl _ _ u4 w4 rfl rfl Xd.out ?_);refine(Jp).mono (fun e w5 hg=>?_);rcases hg.symm with hd|⟨-,u5,Q,rfl,Jg,hn⟩
 ·have HF:Hid (gg C m w B (.slice av R.length cv) R (⟨5,tx [],a,[],(b.length:Int),0⟩::b) s2 e w5):=Jj.die hd (Xg);obtain⟨-,rfl,-⟩:=hd;unfold a8 at*;go_wp2_with fail;exact⟨rfl,HF⟩
 have Jq:=Jj.then hn;obtain⟨g,gc,ln,rfl,Jf,Jn,Xj,hX⟩:=Jq.putA (q':=⟨⟨5,tx [],a,[],(b.length:Int),0⟩,.slice Jd a.length Jc,.slice none 0 0,K4,[]⟩) 4 (b.length:Int) d_ rfl ⟨rfl,rfl,rfl,rfl,rfl,rfl⟩;have Je:Q.length=b.length:=by rw[<-Jg,List.length_map]
 have e4:(ln:Int)-(R.length:Int)=(b.length:Int)+1:=n9 (Jf.trans (by rw[Je]));obtain⟨i0,i1⟩:=od Jf;have Xc:w5.cell? ⟨g,R.length*6+4,none⟩=some (.int .i64 0):=Jn;obtain⟨X6,Ji⟩:=q_ (w5.setCell ⟨g,R.length*6+4,none⟩ (.int .i64 (b.length:Int)));rw[<-Ji]at hX;obtain⟨Jy,HQ,Xh⟩:=h3 Ji Jg Je;clear Ji Jn Jf Jq Jj Jg Je Jp;go_upto_region 13 with fail;rw[<-Jy.out];have hF:gg C m w B (.slice av R.length cv) R (⟨5,tx [],a,[],(b.length:Int),0⟩::b) s2 (.returned (.slice (some ⟨g,0,none⟩) ln gc)) X6:=by
  rw[List.append_assoc]at hX;exact hX.fin (by rw[List.map_append,HQ.out];rfl)
 have HF:=ah hF;clear hX hF;go_wp2;go_ret;exact HF
theorem Ak{C:RC}(HN:gW C){m:TV}{w:World}{s:PS}{B:Nat}{t:Tr}(nm:ByteArray)(hS:bj C m w s)(hT:sJ B w m t)(Jy:C.P+1<B)(hB:B<=w.heap.size)(hl:t.globals.length<=100000)(hi:aC (ai C.l) [91] s=true):
  Calls prog 96 #[.pointer (some ⟨C.P,0,none⟩),.string nm] w (jH C B w (ci t (.inl ⟨nm,qa (fZ (ai C.l) (bA (ai C.l) [91] s)).1⟩)) (bq (ai C.l) [59] (cO (ai C.l) [93] (fZ (ai C.l) (bA (ai C.l) [91] s)).2))):=by
 obtain⟨t',Q,hJ⟩:=hT;obtain⟨W1,Js⟩:=q_ (w.alloc (.cells #[.string nm,.int .i64 0] 74));obtain⟨M,eM⟩:=q_ w.heap.size;have h1:=BI.nw #[.string nm,.int .i64 0] 74 (show 0<2 by omega) (show 2<=10 by omega) hS Js eM;have Ju:=ah (du h1.st [91] d_);rw[hi]at Ju;have Xa:=hS.op;obtain⟨HJ,HB,Xf,HM,Xc⟩:=h5 hJ (And.intro Jy (And.intro hB hl)) Js eM (eK HN h1.st [91] d_);have Xh:=ah fun W (h:bj C m W (bA (ai C.l) [91] s))=>pw HN h;have Xd:=ah fun W z (h:bj C m W z) (ho:1<=z.op)=>eL HN h ho [93] d_;have Xg:Hid (1<=(fZ (ai C.l) (bA (ai C.l) [91] s)).2.op):=by show 1<=_;rw[nu_op,on_op];omega
 have Jx:=ah fun m W z (h:bj C m W z)=>dt HN h [59] d_;have Xb:Hid (Dm (ai C.l) (bA (ai C.l) [91] s) (fZ (ai C.l) (bA (ai C.l) [91] s)).2):=rI _;generalize bA (ai C.l) [91] s=y1 at*;generalize fZ (ai C.l) y1=uz at*;obtain⟨u,y2⟩:=uz;dsimp only at*;clear Js eM hS hJ Jy hB hl HN Xa;have h1:BI C m w M [.string nm,.int .i64 0] W1 s:=h1;go_enter func96,ntmps96;go_upto_region 1 with fail;rw[<-Xf.out,<-HM.out];go_wp2_with fail;refine Ju.out.mono ?_;rintro e w2 ⟨rfl,hw⟩;rw[hw];clear hw Ju;go_wp2_with fail;refine(Xc).mono (fun e w3 hg=>?_);rcases hg.symm with hd|⟨-,rfl,z2,t2⟩
 ·have HF:Hid (jH C B w (ci t (.inl ⟨nm,qa u⟩)) (bq (ai C.l) [59] (cO (ai C.l) [93] y2)) e w3):=.inr (hd.later ((Xb.out.trans (bG _ _)).trans (bQ _ _)) h1.bb);obtain⟨-,rfl,-⟩:=hd;unfold a8 at*;go_wp2_with fail;exact⟨rfl,HF⟩
 have h3:=h1.go z2 t2;clear z2 t2;go_wp2_with fail;refine(Xh.out w3 h3.st).mono (fun e w4 hg=>?_);rcases hg.symm with hd|⟨-,rfl,z2,t2⟩
 ·have HF:Hid (jH C B w (ci t (.inl ⟨nm,qa u⟩)) (bq (ai C.l) [59] (cO (ai C.l) [93] y2)) e w4):=.inr (hd.later ((bG _ _).trans (bQ _ _)) h3.bb);obtain⟨-,rfl,-⟩:=hd;unfold a8 at*;go_wp2_with fail;exact⟨rfl,HF⟩
 have h4:=h3.go z2 t2;clear z2 t2;obtain⟨X4,Jv⟩:=q_ (w4.setCell ⟨M,1,none⟩ (.int .i64 u));obtain⟨Jk,-⟩:=h4.put 1 (.int .i64 u) Jv;have Jk:BI C m w M [.string nm,.int .i64 u] X4 y2:=Jk;have Xe:=h4.q (j:=1) rfl;have Jz:=ah Jv;clear Jv h4;go_upto_region 4 with fail;rw[<-Jz.out];clear Xe;go_wp2_with fail;refine(Xd.out X4 y2 Jk.st Xg).mono (fun e w5 hg=>?_);rcases hg.symm with hd|⟨-,rfl,z2,t2⟩
 ·have HF:Hid (jH C B w (ci t (.inl ⟨nm,qa u⟩)) (bq (ai C.l) [59] (cO (ai C.l) [93] y2)) e w5):=.inr (hd.later (bQ _ _) Jk.bb);obtain⟨-,rfl,-⟩:=hd;unfold a8 at*;go_wp2_with fail;exact⟨rfl,HF⟩
 have h5:=Jk.go z2 t2;clear z2 t2;have p9:=h5.st.q.2.2;have Jw:=h5.q (j:=1) rfl;obtain⟨X5,Jq⟩:=q_ (w5.setCell ⟨C.P,9,none⟩ (.bool (m.nz || decide (u=0))));have Jb:=h5.setm (m':= {m with nz:=m.nz || decide (u=0)}) 9 _ (fun _ _ _ _ _ _=>rfl) Jq;have Jl:=ah Jq;clear Jq h5;cases hz:m.nz
 ·rw[hz]at Jl Jb p9;go_upto_region 6 with fail;have e5:w5.setCell ⟨C.P,9,none⟩ (.bool (u == 0))=X5:=by rw[Jl.out];congr 2
  rw[e5];clear p9 Jw;go_wp2_with fail;refine(Jx.out _ X5 _ Jb.st).mono (fun e w6 hg=>?_);rcases hg.symm with hd|⟨-,rfl,z2,t2⟩
  ·have HF:Hid (jH C B w (ci t (.inl ⟨nm,qa u⟩)) (bq (ai C.l) [59] (cO (ai C.l) [93] y2)) e w6):=.inr (hd.later (Dm.refl _) Jb.bb);obtain⟨-,rfl,-⟩:=hd;unfold a8 at*;go_wp2_with fail;exact⟨rfl,HF⟩
  have Jc:=Jb.go z2 t2;clear z2 t2;obtain⟨W6,Jg⟩:=q_ w6.drew;have Jd:Bl w6 W6:=by rw[Jg];exact dD w6
  obtain⟨W7,Jf⟩:=q_ (W6.alloc (.cells #[.string nm,.int .i64 u] 74));obtain⟨b7,Je⟩:=q_ W6.heap.size;obtain⟨v8,W8,r8,Jm,x7,c7,x8,c8,hF⟩:=lP Jc HJ.out ⟨rfl,rfl⟩ ⟨nm,qa u⟩ (fun hz2=>⟨hz,by have hu:¬u=0:=(by simpa using hz2);rw[show qa u=u from if_neg hu]⟩) (fun hz2=>.inr (by have hu:u=0:=(by simpa using hz2);show qa u= -1;exact if_pos hu)) HB.out.1 HB.out.2.1 HB.out.2.2 Jd Jf Je;obtain⟨va,vn,vc,rfl⟩:=Jm;have h6:=Jc.below Jd;have Jp:∃ga gn gc,m.vg=.slice ga gn gc:=by
   obtain⟨a,c,e,-⟩:=au HJ.out.own.gs;exact⟨_,_,_,e⟩
  obtain⟨ga,gn,gc,Jh⟩:=Jp;have c6:=h6.st.q.1.1;try dsimp only at c6 c7 c8 r8
  rw[Jh]at c6 c7 c8 r8;obtain⟨HS,Ji,Ja,Jj,Jt,Jr,Jo,Jn,HF⟩:=h9 (And.intro c6 (And.intro (h6.bx 0 _ rfl).1 (h6.bx 1 _ rfl).1)) (And.intro c7 (And.intro (x7 0 _ rfl).1 (x7 1 _ rfl).1)) (And.intro c8.1 (And.intro (x8 0 _ rfl).1 (x8 1 _ rfl).1)) c8 r8 Jg Jf Je hF;clear Jg Jf Je r8 x7 c7 x8 c8 hF h6 c6 Jd Jc Jh;go_upto_region 7 with fail;refine aX 12 (fun X=>X.cell? ⟨C.P,6,none⟩=some (.slice ga gn gc)/\X.cell? ⟨M,0,none⟩=some (.string nm)/\X.cell? ⟨M,1,none⟩=some (.int .i64 u)) k_ ?_;rw[<-Jr.out];refine tk 0 [9,10,11,12] HS.out ?_;refine tk 1 [2,3,4,5,8,12] HS.out ?_;refine tk 2 [3,4,5,8,12] HS.out ?_;refine tk 3 [4,5,8,12] HS.out ?_;refine tk 4 [5,8,12] HS.out ?_;refine tk 5 [8,12] HS.out ?_;refine tk 6 [7,8,12] HS.out ?_;clear HS;refine aw (i:=7) k_ rfl (fun K hK=>?_);go_simp;rw[<-Jo.out,<-Jn.out];refine hK.out _ _ (fun _=>Ji) ?_;clear hK K;try simp only[Act.put,tA,tB,tC]
  refine aw (i:=8) k_ rfl (fun K hK=>?_);refine bm rfl (.tmp 41) (.tmp 43) 23 rfl (.slice ga gn gc) (.slice (some ⟨b7,0,none⟩) 1 1) (.slice va vn vc) W8 rfl rfl Jt.out ?_;refine hK.out _ _ (fun _=>Ja) ?_;clear hK K Ji;try simp only[Act.put,tA,tB,tC]
  refine tk 9 [10,11,12] Ja.out ?_;refine tk 10 [11,12] Ja.out ?_;refine tk 11 [12] Ja.out ?_;clear Ja;have J_:=Jj.out.1;have Xi:=Jj.out.2;refine aw (i:=12) k_ rfl (fun K hK=>?_);go_simp;refine hK.out _ _ (fun h=>absurd rfl h) ?_;clear hK K;refine aP k_ ?_ _;go_wp2_with fail;refine bodyPost_ret (results_none rfl _ _ _) rfl ?_;exact HF
 ·rw[hz]at Jl Jb p9;go_upto_region 6 with fail;have e5:w5.setCell ⟨C.P,9,none⟩ (.bool true)=X5:=by rw[Jl.out];rfl
  rw[e5];clear p9 Jw;go_wp2_with fail;refine(Jx.out _ X5 _ Jb.st).mono (fun e w6 hg=>?_);rcases hg.symm with hd|⟨-,rfl,z2,t2⟩
  ·have HF:Hid (jH C B w (ci t (.inl ⟨nm,qa u⟩)) (bq (ai C.l) [59] (cO (ai C.l) [93] y2)) e w6):=.inr (hd.later (Dm.refl _) Jb.bb);obtain⟨-,rfl,-⟩:=hd;unfold a8 at*;go_wp2_with fail;exact⟨rfl,HF⟩
  have Jc:=Jb.go z2 t2;clear z2 t2;obtain⟨W6,Jg⟩:=q_ w6.drew;have Jd:Bl w6 W6:=by rw[Jg];exact dD w6
  obtain⟨W7,Jf⟩:=q_ (W6.alloc (.cells #[.string nm,.int .i64 u] 74));obtain⟨b7,Je⟩:=q_ W6.heap.size;obtain⟨v8,W8,r8,Jm,x7,c7,x8,c8,hF⟩:=lP Jc HJ.out ⟨rfl,rfl⟩ ⟨nm,qa u⟩ (fun hz2=>absurd hz2 i_) (fun _=>.inl hz) HB.out.1 HB.out.2.1 HB.out.2.2 Jd Jf Je;obtain⟨va,vn,vc,rfl⟩:=Jm;have h6:=Jc.below Jd;have Jp:∃ga gn gc,m.vg=.slice ga gn gc:=by
   obtain⟨a,c,e,-⟩:=au HJ.out.own.gs;exact⟨_,_,_,e⟩
  obtain⟨ga,gn,gc,Jh⟩:=Jp;have c6:=h6.st.q.1.1;try dsimp only at c6 c7 c8 r8
  rw[Jh]at c6 c7 c8 r8;obtain⟨HS,Ji,Ja,Jj,Jt,Jr,Jo,Jn,HF⟩:=h9 (And.intro c6 (And.intro (h6.bx 0 _ rfl).1 (h6.bx 1 _ rfl).1)) (And.intro c7 (And.intro (x7 0 _ rfl).1 (x7 1 _ rfl).1)) (And.intro c8.1 (And.intro (x8 0 _ rfl).1 (x8 1 _ rfl).1)) c8 r8 Jg Jf Je hF;clear Jg Jf Je r8 x7 c7 x8 c8 hF h6 c6 Jd Jc Jh;go_upto_region 7 with fail;refine aX 12 (fun X=>X.cell? ⟨C.P,6,none⟩=some (.slice ga gn gc)/\X.cell? ⟨M,0,none⟩=some (.string nm)/\X.cell? ⟨M,1,none⟩=some (.int .i64 u)) k_ ?_;rw[<-Jr.out];refine tk 0 [9,10,11,12] HS.out ?_;refine tk 1 [2,3,4,5,8,12] HS.out ?_;refine tk 2 [3,4,5,8,12] HS.out ?_;refine tk 3 [4,5,8,12] HS.out ?_;refine tk 4 [5,8,12] HS.out ?_;refine tk 5 [8,12] HS.out ?_;refine tk 6 [7,8,12] HS.out ?_;clear HS;refine aw (i:=7) k_ rfl (fun K hK=>?_);go_simp;rw[<-Jo.out,<-Jn.out];refine hK.out _ _ (fun _=>Ji) ?_;clear hK K;try simp only[Act.put,tA,tB,tC]
  refine aw (i:=8) k_ rfl (fun K hK=>?_);refine bm rfl (.tmp 41) (.tmp 43) 23 rfl (.slice ga gn gc) (.slice (some ⟨b7,0,none⟩) 1 1) (.slice va vn vc) W8 rfl rfl Jt.out ?_;refine hK.out _ _ (fun _=>Ja) ?_;clear hK K Ji;try simp only[Act.put,tA,tB,tC]
  refine tk 9 [10,11,12] Ja.out ?_;refine tk 10 [11,12] Ja.out ?_;refine tk 11 [12] Ja.out ?_;clear Ja;have J_:=Jj.out.1;have Xi:=Jj.out.2;refine aw (i:=12) k_ rfl (fun K hK=>?_);go_simp;refine hK.out _ _ (fun h=>absurd rfl h) ?_;clear hK K;refine aP k_ ?_ _;go_wp2_with fail;refine bodyPost_ret (results_none rfl _ _ _) rfl ?_;exact HF
section
variable{C:RC}{m:TV}{w:World}{b:Nat}
theorem uA(HN:gW C){s:PS}(h:bj C m w s):Calls prog 129 #[.pointer (some ⟨C.P,0,none⟩)] w (eV C m w (dj (ai C.l) s).2 (.string (dj (ai C.l) s).1)):=by
 have HE:=ah (dt HN h [105,110,116] d_);have Jc:Hid (∀W,bj C m W (bq (ai C.l) [105,110,116] s)->Calls prog 93 #[.pointer (some ⟨C.P,0,none⟩)] W (eV C m W (dj (ai C.l) s).2 (.string (dj (ai C.l) s).1))):=fun W hW=>gC HN hW;have HD:Hid (Dm (ai C.l) (bq (ai C.l) [105,110,116] s) (dj (ai C.l) s).2):=gU _;have Jb:Hid (∀W,am (fun k=>k=C.P) w W->Kp C w W):=fun W ht=>h.tb ht;generalize bq (ai C.l) [105,110,116] s=z1 at*;generalize (dj (ai C.l) s).2=z2 at*;generalize (dj (ai C.l) s).1=x at*;go_enter func129,ntmps129;go_wp2_with fail;refine HE.out.mono (fun e w1 hg=>?_);rcases hg.symm with hd|⟨-,rfl,z3,t3⟩
 ·have HF:Hid (eV C m w z2 (.string x) e w1):=.inr (hd.later HD.out (Kp.refl _ _));obtain⟨-,rfl,-⟩:=hd;unfold a8 at*;go_wp2_with fail;exact⟨rfl,HF⟩
 obtain⟨HC,Ja⟩:=h2 (Jc.out w1 z3) (And.intro t3 (Jb.out w1 t3));go_wp2_with fail;refine HC.out.mono (fun e w2 hg=>?_);rcases hg.symm with hd|⟨h1,rfl,z4,t4⟩
 ·have HF:Hid (eV C m w z2 (.string x) e w2):=.inr (hd.later (Dm.refl _) Ja.out.2);obtain⟨-,rfl,-⟩:=hd;unfold a8 at*;go_wp2_with fail;exact⟨rfl,HF⟩
 have HF:Hid (eV C m w z2 (.string x) (.returned (.string x)) w2):=.inl ⟨h1,rfl,z4,Ja.out.1.trans t4⟩;go_wp2;go_ret;exact HF
structure oC (C:RC) (m:TV) (w:World) (M:Nat) (nm:ByteArray) (vp:Value) (o:List ByteArray) (W:World) (z:PS):Prop where
 bi:BI C m w M [.string nm,vp,.slice none 0 0] W z
 row:fe (M+1) W vp o
section
variable{C:RC}{m:TV}{w W W':World}{M:Nat}{nm:ByteArray}{vp:Value}{o:List ByteArray}{z z':PS}
theorem oC.bb(h:oC C m w M nm vp o W z):Kp C w W:=h.bi.bb
theorem oC.pm(h:oC C m w M nm vp o W z):C.P<M+1:=by have:=h.bi.hl;have:=h.bi.mw;omega
theorem oC.go(h:oC C m w M nm vp o W z)(hz:bj C m W' z')(ht:am (fun k=>k=C.P) W W'):oC C m w M nm vp o W' z':=⟨h.bi.go hz ht,az h.row ht (fun k hk=>by rw[hk];exact h.pm)⟩
theorem oC.below(h:oC C m w M nm vp o W z)(hb:Below W.heap.size W W'):oC C m w M nm vp o W' z:=⟨h.bi.below hb,ownB h.row hb⟩
theorem oC.app{W5:World}(h:oC C m w M nm vp o W z)(x:ByteArray)(hl:o.length<=2000000)(hW:W5=W.alloc (.cells #[.string x] 9))(hb:b=W.heap.size):
  ∃ua un uc w',(Builtin.append_ #[40,40] 40 #[vp,.slice (some ⟨b,0,none⟩) 1 1]).run prog W5=.ok (.slice ua un uc) w'/\W5.cell? ⟨M,1,none⟩=some vp/\(w'.cell? ⟨M,1,none⟩=some vp/\w'.frozen? ⟨M,1,none⟩=false)/\oC C m w M nm (.slice ua un uc) (o++[x]) (w'.setCell ⟨M,1,none⟩ (.slice ua un uc)) z:=by
 have hm:=h.bi.m;obtain⟨v',w',r1,r2,r3,r4⟩:=lN x h.row (show M+1<=W.heap.size by omega) hl hW hb;have Jb:Bl W W5:=by rw[hW];exact r_.alloc n_ _
 have hv:∀k,vp.ownBlock=some k->M+1<=k:=fun k hk=>(World.ownsRow.lt h.row k hk).1;have Jf:=h.bi.st.ok.hi;have Jd:=h.bi.mw;have Je:=h.bi.hl;obtain⟨a,c,Ja,-⟩:=au r2;obtain⟨n,hn⟩:=q_ ((o++[x]).length);rw[<-hn]at Ja;subst Ja;have hI:BI C m w M [.string nm,vp,.slice none 0 0] w' z:=⟨h.bi.st.tcs r3 (fun e=>by have:=hv _ e;omega) (fun k hk=>by have:=hv k hk;omega),h.bi.bx.tcs hm r3 (fun e=>by have:=hv _ e;omega),h.bi.t.next r3 (fun k hk=>.inr (by have:=hv k hk;omega)),l_ hm r3.size,Jd,Je⟩;obtain⟨Jc,t2⟩:=hI.put 1 (.slice a n c) rfl;exact⟨a,n,c,w',r1,((h.bi.below Jb).q (j:=1) rfl).1,hI.q (j:=1) rfl,Jc,az r2 t2 (fun k hk=>by omega)⟩
end
theorem pM{B M B2:Nat}{W W' W7:World}{nm:ByteArray}{vp vb:Value}{ps:List ByteArray}{R:List SV}{z:PS}{t t':Tr}{Q:List FV}(h:BI C m w M [.string nm,vp,vb] W z)(hp:fe (M+1) W vp ps)(Jg:∀g,vp.ownBlock=some g->g<B2)(hr:cD B2 W vb R)(Jh:M+1<=B2)(hJ:Fl B w m t t' Q)(Jc:C.P+1<B)(hB:B<=w.heap.size)(hl:t.funcs.length<=100000)
  (hb:Below W.heap.size W W') (hW:W7=W'.alloc (.cells #[.string nm,vp,vb] 43)) (Jf:b=W'.heap.size):
  ∃v8 W8,(Builtin.append_ #[24,24] 24 #[m.vf,.slice (some ⟨b,0,none⟩) 1 1]).run prog W7=.ok v8 W8/\(∃a n c,v8=.slice a n c)/\aR W7 M [.string nm,vp,vb]/\W7.cell? ⟨C.P,7,none⟩=some m.vf/\aR W8 M [.string nm,vp,vb]/\(W8.cell? ⟨C.P,7,none⟩=some m.vf/\W8.frozen? ⟨C.P,7,none⟩=false)/\jH C B w (ci t (.inr ⟨nm,ps,R.map SV.s⟩)) z (.returned (.tuple #[])) (W8.setCell ⟨C.P,7,none⟩ v8):=by
 have h':=h.below hb;have Ji:=h.mw;obtain⟨v8,W8,r1,r2,r3,Q',r4⟩:=hJ.own.addF nm ps (M:=M+1) h'.t (fun k hk=>by rw[hk];have:=Jc;omega) hB o_ Jh (ownB hp hb) Jg (hr.below hb) hW Jf (by rw[hJ.fu];exact hl);have Jb:∀k,m.vf.ownBlock=some k->B<=k/\k<w.heap.size:=fun k hk=>World.ownsRow.lt hJ.own.fs.row k hk;have Jj:=h.st.ok.hi;have Ja:bj C m W8 z:=h'.st.tcs r2 (fun e=>by have:=(Jb _ e).1;omega) (fun k hk=>by have:=(Jb k hk).1;omega);have Je:=h'.bx.tcs h'.m r2 (fun e=>by have:=(Jb _ e).2;omega);have Jd:Bl W' W7:=by rw[hW];exact r_.alloc n_ _
 have h7:=h'.below Jd;obtain⟨s9,t9⟩:=Ja.setm (m':= {m with vf:=v8}) 7 v8 (fun _ _ _ _ _ _=>rfl);refine⟨v8,W8,r1,r3,h7.bx,h7.st.q.2.1.1,Je,Ja.q.2.1,.inl ⟨h.st.al,_,rfl,s9,⟨⟨t'.globals,t'.funcs++[⟨nm,ps,R.map SV.s⟩]⟩,Q',r4.tcs t9 (fun k hk=>by rw[hk];have:=Jc;omega),?_,hJ.len,hJ.eq,hJ.bad⟩,?_⟩⟩
 ·simp only[ci,hJ.fu]
 ·exact(((h'.t.mono fun k hk=>.inl hk).trans (r2.mono fun k hk=>.inr (Jb k hk).1)).trans (t9.mono fun k hk=>.inl hk))
end
section
variable{C:RC}
theorem yh(HN:gW C){n:Nat}(Jg:D4 C n)(Jc:CS C n)(Jh:Fk C n)(Jd:Du C n):Fm C (n+1):=by
 intro w m B s v R r s' hP hS hr Ja Jb hl;rcases qp hP with⟨hi,hp⟩|⟨hi,a,s1,b,s2,hp,hb,⟨he,rfl,rfl⟩|⟨he,c,hc,rfl⟩⟩|⟨hi,a,s1,b,hp,hb,rfl⟩|⟨hi,a,s1,hp,rfl,rfl⟩|⟨hi,a,s1,hp,rfl,rfl⟩|⟨hq,Je⟩
 ·exact C0 HN Jg hS hr Ja Jb hl hi hp
 ·rw[szS_cons]at hl;simp only[l_n]at hl;exact A8 HN (n:=n) hS hr Ja Jb hi (hp.dm.trans hb.dm) (fun W h=>D7 HN Jc Jd h.st h.row Ja h.le hp hb o_ he)
 ·rw[szS_cons,szS_app]at hl;simp only[l_n]at hl;exact A8 HN (n:=n) hS hr Ja Jb hi (hp.dm.trans (hb.dm.trans (Dm.no (cL he).1))) (fun W h=>D8 HN Jc Jd h.st h.row Ja h.le hp hb o_ he hc)
 ·rw[szS_cons]at hl;simp only[l_n]at hl;exact yg HN Jc Jd hS hr Ja Jb o_ hi hp hb
 ·rw[szS_cons,szS_nil]at hl;simp only[l_n]at hl;exact C3 HN Jg hS hr Ja Jb o_ hi hp
 ·rw[szS_cons,szS_nil]at hl;simp only[l_n]at hl;exact C_ HN Jc hS hr Ja Jb o_ hi hp
 ·have Jf:Dm (ai C.l) (aS (ai C.l) s).2 s':=by
   rcases Je with⟨-,a,s1,h1,h2⟩|⟨-,-,a,s1,h1,-,rfl⟩|⟨-,-,h1⟩
   ·exact h1.dm.trans h2.dm
   ·exact h1.dm.trans (bQ _ _)
   ·exact h1.dm
  by_cases hk:dF (ai C.l s.i)=1
  ·exact Ag HN Jh hS hr Ja Jb hl hk Je Jf
  ·exact Ah HN (n:=n) hS hr Ja Jb hk hq Jf
theorem yi{C:RC}(HN:gW C):∀n:Nat,n<=1000000->Fm C n/\Du C n
 | 0,_=>⟨fun _ _ _ _ _ _ _ _ h=>(by cases h using Pa_i),fun _ _ _ _ _ _ _ _ h=>(by cases h using Pa_i)⟩
 | n+1,hn=>by
  obtain⟨h1,h2⟩:=yi HN n o_;obtain⟨e1,e2,e3⟩:=yb HN n o_;have hE:=xX e1;have hEd:=CU HN hE;have hWt:=CT HN hE;exact⟨yh HN hEd hWt (CZ HN hEd hWt e3) h2,yf HN h1⟩
end
theorem uB{C:RC}(HN:gW C){n:Nat}(hn:n<=1000000){m:TV}{w:World}{s:PS}{B:Nat}{t:Tr}(nm:ByteArray){ps:List ByteArray}{s1:PS}{b:List St}{s2:PS}(hS:bj C m w s)(hT:sJ B w m t)(Yy:C.P+1<B)(hB:B<=w.heap.size)(hl:t.funcs.length<=100000)
  (hp:Pa (ai C.l) n (.pl []) (bA (ai C.l) [40] s) (.p ps) s1) (hb:Pa (ai C.l) n .bl (cO (ai C.l) [41] s1) (.s b) s2) (Yx:ps.length<=1000000/\fJ b<=1000000):
  Calls prog 95 #[.pointer (some ⟨C.P,0,none⟩),.string nm] w (jH C B w (ci t (.inr ⟨nm,ps,b⟩)) s2):=by
 obtain⟨t',Q,hJ⟩:=hT;obtain⟨W1,Yl⟩:=q_ (w.alloc (.cells #[.string nm,.slice none 0 0,.slice none 0 0] 43));obtain⟨M,eM⟩:=q_ w.heap.size;have h1:oC C m w M nm (.slice none 0 0) [] W1 s:=⟨BI.nw #[.string nm,.slice none 0 0,.slice none 0 0] 43 (show 0<3 by omega) (show 3<=10 by omega) hS Yl eM,World.ownsRow_nil _ _ _ _⟩;have Yz:=ah (eK HN h1.bi.st [40] d_);have Zc:=ah fun W z (h:bj C m W z)=>du h [41] d_;have Yu:=ah fun W z (h:bj C m W z)=>uA HN h;have Za:=ah fun W z (h:bj C m W z)=>cY HN h [44] d_;have Ys:=ah fun W z (h:bj C m W z) (ho:1<=z.op)=>eL HN h ho [41] d_;have Yw:Hid (1<=s1.op):=by show 1<=s1.op;rw[hp.op,on_op];have:=hS.op;omega
 have Yr:=ah fun W (h:bj C m W (cO (ai C.l) [41] s1))=>(yi HN n hn).2 W m W.heap.size _ _ [] b s2 hb h ⟨World.ownsRow_nil _ _ _ _,(fun q hq=>by cases hq),List.nodup_nil,fun g hg=>(by simp[Value.ownBlock]at hg)⟩ h.lt n_ (by simp only[l_n];omega);have Xm:Hid (Dm (ai C.l) (cO (ai C.l) [41] s1) s2):=hb.dm;have Zg:Hid (Dm (ai C.l) (bA (ai C.l) [40] s) s2):=(hp.dm.trans (bG _ _)).trans hb.dm;have HJ:=ah hJ;have HB:=ah (And.intro Yy (And.intro hB hl));have Ze:=ah Yl;have HM:=ah eM;have Zd:=ah Yx.1;have Ye:=ah hp;generalize bA (ai C.l) [40] s=z0 at*;clear Yl eM hS hJ Yy hB hl HN hp hb Yx;go_enter func95,ntmps95;go_upto_region 1 with fail;rw[<-Ze.out,<-HM.out];go_wp2_with fail;refine(Yz).mono (fun e w2 hg=>?_);rcases hg.symm with hd|⟨-,rfl,z2,t2⟩
 ·have HF:Hid (jH C B w (ci t (.inr ⟨nm,ps,b⟩)) s2 e w2):=.inr (hd.later (Zg) h1.bb);obtain⟨-,rfl,-⟩:=hd;unfold a8 at*;go_wp2_with fail;exact⟨rfl,HF⟩
 have h2:=h1.go z2 t2;clear z2 t2;go_wp2_with fail;have Yd:=ah (Zc.out w2 z0 h2.bi.st);rcases j_ Ye.out with⟨h0,-⟩|⟨h0,-,hi,Yq,Yk⟩|⟨h0,Yt,Jh⟩
 ·exact absurd (dB h2.bi.st.al) h0
 ·subst Yk;have Yo:oC C m w M nm (.slice none 0 0) ps w2 s1:=by rw[Yq];exact h2
  clear h2 Yq;refine Yd.out.mono ?_;rintro e w3 ⟨rfl,hw⟩;rw[hw,hi];clear hw Yd Ye;go_wp2_with fail;refine(Ys.out _ _ Yo.bi.st Yw).mono (fun e w9 hg=>?_);rcases hg.symm with hd|⟨-,rfl,z2,t2⟩
  ·have HF:Hid (jH C B w (ci t (.inr ⟨nm,ps,b⟩)) s2 e w9):=.inr (hd.later (Xm) Yo.bb);obtain⟨-,rfl,-⟩:=hd;unfold a8 at*;go_wp2_with fail;exact⟨rfl,HF⟩
  have h9:=Yo.go z2 t2;clear z2 t2;have m2:=(h9.bi.q (j:=2) rfl);have Xs:=ah (Yr.out w9 h9.bi.st);go_wp2_with fail;refine Xs.out.mono (fun e w10 hg=>?_);rcases hg.symm with hd|⟨-,ub,R2,rfl,Ya,Jf⟩
  ·have HF:Hid (jH C B w (ci t (.inr ⟨nm,ps,b⟩)) s2 e w10):=.inr (hd.later (Dm.refl _) h9.bb);obtain⟨-,rfl,-⟩:=hd;unfold a8 at*;go_wp2_with fail;exact⟨rfl,HF⟩
  have Xt:am (fun k=>k=C.P) w9 w10:=Jf.t.mono fun k hk=>by
   rcases hk with hk|hk
   ·exact hk
   ·simp[Value.ownBlock]at hk
  have h10:=h9.go Jf.st Xt;obtain⟨ba,bc,Xp,-⟩:=au Jf.row.row;obtain⟨bn,Xw⟩:=q_ (([]++R2).length);rw[<-Xw]at Xp;subst Xp;obtain⟨Ji,Je⟩:=q_ (w10.setCell ⟨M,2,none⟩ (.slice ba bn bc));obtain⟨h11,Ju⟩:=h10.bi.put 2 (.slice ba bn bc) Je;have h11:BI C m w M [.string nm,Value.slice none 0 0,.slice ba bn bc] Ji s2:=h11;have Yf:=h9.bi.m;have Jl:fe (M+1) Ji (Value.slice none 0 0) ps:=az h10.row Ju (fun k hk=>by omega);have Jk:cD w9.heap.size Ji (.slice ba bn bc) ([]++R2):=Jf.row.tcs Ju (fun g hg e=>by have:=(World.ownsRow.lt Jf.row.row g hg).1;omega) (fun g hg e=>by have:=(Jf.row.rng g hg).1;omega);have Xg:∀g,(Value.slice none 0 0).ownBlock=some g->g<w9.heap.size:=fun g hg=>(World.ownsRow.lt h9.row g hg).2;have Yg:=h10.bi.q (j:=2) rfl;have Jw:=ah Je;have Yi:Hid (([]++R2:List SV).map SV.s=b):=Ya;clear Je h9 h10 Xt Ju Jf Xw Ya Xs;go_upto_region 8 with fail;rw[<-Jw.out];clear Yg m2;obtain⟨W12,Jb⟩:=q_ Ji.drew;have Jg:Bl Ji W12:=by rw[Jb];exact dD Ji
  obtain⟨Zf,Jd⟩:=q_ (W12.alloc (.cells #[.string nm,Value.slice none 0 0,.slice ba bn bc] 43));obtain⟨Yj,Jc⟩:=q_ W12.heap.size;obtain⟨Y_,Ym,Js,Jx,Jm,Xa,Jn,Jq,hF⟩:=pM h11 Jl Xg Jk o_ HJ.out HB.out.1 HB.out.2.1 HB.out.2.2 Jg Jd Jc;rw[Yi.out]at hF;obtain⟨va,vn,vc,rfl⟩:=Jx;have h12:=h11.below Jg;obtain⟨fa,fn,fc,Xi⟩:∃fa fn fc,m.vf=.slice fa fn fc:=by
   obtain⟨a,c,e⟩:=HJ.out.own.fs.shape;exact⟨_,_,_,e⟩
  have Jy:=h12.st.q.2.1.1;rw[Xi]at Jy Xa Jq Js;have HS:=ah (And.intro Jy (And.intro (h12.bx 0 _ rfl).1 (And.intro (h12.bx 1 _ rfl).1 (h12.bx 2 _ rfl).1)));have Xk:=ah (And.intro Xa (And.intro (Jm 0 _ rfl).1 (And.intro (Jm 1 _ rfl).1 (Jm 2 _ rfl).1)));have Jj:=ah (And.intro Jq.1 (And.intro (Jn 0 _ rfl).1 (And.intro (Jn 1 _ rfl).1 (Jn 2 _ rfl).1)));have Ja:=ah Jq;have Jo:=ah Js;have Xb:=ah Jb;have J_:=ah Jd;have Jv:=ah Jc;have HF:=ah hF;clear Jb Jd Jc Js Jm Xa Jn Jq hF h12 Jy Jg h11 Jl Jk Xg Xi Yf;refine aX 12 (fun X=>X.cell? ⟨C.P,7,none⟩=some (.slice fa fn fc)/\X.cell? ⟨M,0,none⟩=some (.string nm)/\X.cell? ⟨M,1,none⟩=some (Value.slice none 0 0)/\X.cell? ⟨M,2,none⟩=some (.slice ba bn bc)) k_ ?_;rw[<-Xb.out];refine tk 0 [9,10,11,12] HS.out ?_;refine tk 1 [2,3,4,5,8,12] HS.out ?_;refine tk 2 [3,4,5,8,12] HS.out ?_;refine tk 3 [4,5,8,12] HS.out ?_;refine tk 4 [5,8,12] HS.out ?_;refine tk 5 [8,12] HS.out ?_;refine tk 6 [7,8,12] HS.out ?_;clear HS;refine aw (i:=7) k_ rfl (fun K hK=>?_);go_simp;rw[<-J_.out,<-Jv.out];refine hK.out _ _ (fun _=>Xk) ?_;clear hK K;try simp only[Act.put,tA,tB,tC]
  refine aw (i:=8) k_ rfl (fun K hK=>?_);refine bm rfl (.tmp 44) (.tmp 46) 24 rfl (.slice fa fn fc) (.slice (some ⟨Yj,0,none⟩) 1 1) (.slice va vn vc) Ym rfl rfl Jo.out ?_;refine hK.out _ _ (fun _=>Jj) ?_;clear hK K Xk;try simp only[Act.put,tA,tB,tC]
  refine tk 9 [10,11,12] Jj.out ?_;refine tk 10 [11,12] Jj.out ?_;refine tk 11 [12] Jj.out ?_;clear Jj;have Xl:=Ja.out.1;have Yb:=Ja.out.2;refine aw (i:=12) k_ rfl (fun K hK=>?_);go_simp;refine hK.out _ _ (fun h=>absurd rfl h) ?_;clear hK K;refine aP k_ ?_ _;go_wp2_with fail;refine bodyPost_ret (results_none rfl _ _ _) rfl ?_;exact HF
 ·have hi:aC (ai C.l) [41] z0=false:=by
   rcases Yt with h|h
   ·exact absurd rfl h
   ·exact h
  refine Yd.out.mono ?_;rintro e w3 ⟨rfl,hw⟩;rw[hw,hi];clear hw Yd Yt hi w3;go_wp2_with fail;obtain⟨xm,y,Xe⟩:∃xm y,dj (ai C.l) z0=(xm,y):=⟨_,_,rfl⟩;have Xo:Hid (∀W,bj C m W z0->Calls prog 129 #[.pointer (some ⟨C.P,0,none⟩)] W (eV C m W y (.string xm))):=fun W h=>by
   have:=Yu.out W z0 h
   rw[Xe]at this;exact this
  rw[Xe]at Jh;dsimp only at Jh;have Xh:Hid (Dm (ai C.l) y s2):=by
   rcases Jh with⟨-,-,e⟩|⟨hq,-⟩
   ·rw[<-e];exact(bG _ _).trans Xm.out
   ·exact Dm.no (cL hq).1
  have X_:Hid (([]:List ByteArray).length<=2000000):=y_;have Xx:Hid ((aC (ai C.l) [44] y=false/\ps=[]++[xm]/\s1=y)∨(aC (ai C.l) [44] y=true/\Pa (ai C.l) n (.pl ([]++[xm])) y.ad (.p ps) s1)):=by
   rcases Jh with h|⟨hq,k,e,h⟩
   ·exact .inl h
   ·exact .inr ⟨hq,h.ups o_⟩
  clear Jh Xe Ye h0;obtain⟨W5,Xc⟩:=q_ w2.drew;have Xv:Bl w2 W5:=by rw[Xc];exact dD w2
  have Jp:=h2.below Xv;have HC:=ah (Xo.out W5 Jp.bi.st);have HS:=ah (Jp.bi.q (j:=1) rfl).1;have Jt:=ah Jp;have Yn:=ah Xc;clear Xc Xv Jp h2;go_upto_region 3 with fail;refine aX 7 (fun X=>X.cell? ⟨M,1,none⟩=some (Value.slice none 0 0)) k_ ?_;rw[<-Yn.out];refine tk 0 [1,5,7] HS.out ?_;refine tk 1 [5,7] HS.out ?_;refine tk 2 [3,4,5,7] HS.out ?_;clear HS;refine aw (i:=3) k_ rfl (fun K hK=>?_);go_simp;refine HC.out.mono (fun e w6 hg=>?_);rcases hg.symm with hd|⟨-,rfl,z6,t6⟩
  ·have HF:Hid (jH C B w (ci t (.inr ⟨nm,ps,b⟩)) s2 e w6):=.inr (hd.later (Xh) Jt.out.bb);obtain⟨-,rfl,-⟩:=hd;unfold a8 at*;go_wp2_with fail;exact⟨rfl,HF⟩
  have Xf:=Jt.out.go z6 t6;clear z6 t6 HC Jt;obtain⟨W7,Xd⟩:=q_ (w6.alloc (.cells #[.string xm] 9));obtain⟨b7,Jz⟩:=q_ w6.heap.size;obtain⟨ua,un,uc,w8,r8,c7,c8,Xz⟩:=Xf.app xm X_.out Xd Jz;have c6:=(Xf.bi.q (j:=1) rfl).1;refine hK.out _ _ (fun _=>c6) ?_;clear hK K;try simp only[Act.put,tA,tB,tC]
  have Xr:=ah Xd;have Xq:=ah Jz;have Jo:=ah r8;have Xy:=ah Xz;have Xn:=ah c7;have Ja:=ah c8;clear Xd Jz r8 Xz Xf c6 c7 c8;refine aw (i:=4) k_ rfl (fun K hK=>?_);go_simp;rw[<-Xr.out,<-Xq.out];refine hK.out _ _ (fun _=>Xn) ?_;clear hK K;try simp only[Act.put,tA,tB,tC]
  refine aw (i:=5) k_ rfl (fun K hK=>?_);refine bm rfl (.tmp 15) (.tmp 18) 40 rfl (Value.slice none 0 0) (.slice (some ⟨b7,0,none⟩) 1 1) (.slice ua un uc) w8 rfl rfl Jo.out ?_;refine hK.out _ _ (fun _=>Ja.out.1) ?_;clear hK K Xn;try simp only[Act.put,tA,tB,tC]
  refine tk 6 [7] Ja.out.1 ?_;have Xl:=Ja.out.1;have Yb:=Ja.out.2;refine aw (i:=7) k_ rfl (fun K hK=>?_);go_simp;refine hK.out _ _ (fun h=>absurd rfl h) ?_;clear hK K;refine aP k_ ?_ _;clear Xl Yb Ja Jo Xr Xq;have Yc:Hid (∃(o:List ByteArray) (pa:Option Addr) (pn pc:Nat) (y:PS),o≠[]/\((aC (ai C.l) [44] y=false/\ps=o/\s1=y)∨(aC (ai C.l) [44] y=true/\Pa (ai C.l) n (.pl o) y.ad (.p ps) s1))/\oC C m w M nm (.slice pa pn pc) o (w8.setCell ⟨M,1,none⟩ (.slice ua un uc)) y):=⟨_,ua,un,uc,y,i_,Xx,Xy⟩;clear Xy Xx Xh Xo X_;go_wp2;go_loopg[] n (fun gk wr=>∃(o:List ByteArray) (pa:Option Addr) (pn pc:Nat) (y:PS),o≠[]/\((aC (ai C.l) [44] y=false/\ps=o/\s1=y)∨(aC (ai C.l) [44] y=true/\Pa (ai C.l) gk (.pl o) y.ad (.p ps) s1))/\oC C m w M nm (.slice pa pn pc) o wr y)
  case atStart=>exact Yc
  case round=>
   clear Yc;obtain⟨o,pa,pn,pc,y,Zb,Jh,hF⟩:=hrel;have Yh:=ah (Za.out _ _ hF.bi.st);have Xj:=ah hF;clear hF;go_wp2_with fail;refine(Yh).mono (fun e w3 hg=>?_);rcases Jh with⟨hi,rfl,rfl⟩|⟨hi,hp⟩
   ·rcases hg with⟨-,rfl,hw⟩|⟨Xu,-⟩
    ·have Jr:=Xj.out;rw[<-hw]at Jr;clear Xj Yh hw;go_wp2_with fail;refine(Ys.out _ _ Jr.bi.st Yw).mono (fun e w9 hg=>?_);rcases hg.symm with hd|⟨-,rfl,z2,t2⟩
     ·have HF:Hid (jH C B w (ci t (.inr ⟨nm,ps,b⟩)) s2 e w9):=.inr (hd.later (Xm) Jr.bb);obtain⟨-,rfl,-⟩:=hd;unfold a8 at*;go_wp2_with fail;exact⟨rfl,HF⟩
     have h9:=Jr.go z2 t2;clear z2 t2;have m2:=(h9.bi.q (j:=2) rfl);have Xs:=ah (Yr.out w9 h9.bi.st);go_wp2_with fail;refine Xs.out.mono (fun e w10 hg=>?_);rcases hg.symm with hd|⟨-,ub,R2,rfl,Ya,Jf⟩
     ·have HF:Hid (jH C B w (ci t (.inr ⟨nm,ps,b⟩)) s2 e w10):=.inr (hd.later (Dm.refl _) h9.bb);obtain⟨-,rfl,-⟩:=hd;unfold a8 at*;go_wp2_with fail;exact⟨rfl,HF⟩
     have Xt:am (fun k=>k=C.P) w9 w10:=Jf.t.mono fun k hk=>by
      rcases hk with hk|hk
      ·exact hk
      ·simp[Value.ownBlock]at hk
     have h10:=h9.go Jf.st Xt;obtain⟨ba,bc,Xp,-⟩:=au Jf.row.row;obtain⟨bn,Xw⟩:=q_ (([]++R2).length);rw[<-Xw]at Xp;subst Xp;obtain⟨Ji,Je⟩:=q_ (w10.setCell ⟨M,2,none⟩ (.slice ba bn bc));obtain⟨h11,Ju⟩:=h10.bi.put 2 (.slice ba bn bc) Je;have h11:BI C m w M [.string nm,Value.slice pa pn pc,.slice ba bn bc] Ji s2:=h11;have Yf:=h9.bi.m;have Jl:fe (M+1) Ji (Value.slice pa pn pc) ps:=az h10.row Ju (fun k hk=>by omega);have Jk:cD w9.heap.size Ji (.slice ba bn bc) ([]++R2):=Jf.row.tcs Ju (fun g hg e=>by have:=(World.ownsRow.lt Jf.row.row g hg).1;omega) (fun g hg e=>by have:=(Jf.row.rng g hg).1;omega);have Xg:∀g,(Value.slice pa pn pc).ownBlock=some g->g<w9.heap.size:=fun g hg=>(World.ownsRow.lt h9.row g hg).2;have Yg:=h10.bi.q (j:=2) rfl;have Jw:=ah Je;have Yi:Hid (([]++R2:List SV).map SV.s=b):=Ya;clear Je h9 h10 Xt Ju Jf Xw Ya Xs;go_upto_region 8 with fail;rw[<-Jw.out];clear Yg m2;obtain⟨W12,Jb⟩:=q_ Ji.drew;have Jg:Bl Ji W12:=by rw[Jb];exact dD Ji
     obtain⟨Zf,Jd⟩:=q_ (W12.alloc (.cells #[.string nm,Value.slice pa pn pc,.slice ba bn bc] 43));obtain⟨Yj,Jc⟩:=q_ W12.heap.size;obtain⟨Y_,Ym,Js,Jx,Jm,Xa,Jn,Jq,hF⟩:=pM h11 Jl Xg Jk o_ HJ.out HB.out.1 HB.out.2.1 HB.out.2.2 Jg Jd Jc;rw[Yi.out]at hF;obtain⟨va,vn,vc,rfl⟩:=Jx;have h12:=h11.below Jg;obtain⟨fa,fn,fc,Xi⟩:∃fa fn fc,m.vf=.slice fa fn fc:=by
      obtain⟨a,c,e⟩:=HJ.out.own.fs.shape;exact⟨_,_,_,e⟩
     have Jy:=h12.st.q.2.1.1;rw[Xi]at Jy Xa Jq Js;have HS:=ah (And.intro Jy (And.intro (h12.bx 0 _ rfl).1 (And.intro (h12.bx 1 _ rfl).1 (h12.bx 2 _ rfl).1)));have Xk:=ah (And.intro Xa (And.intro (Jm 0 _ rfl).1 (And.intro (Jm 1 _ rfl).1 (Jm 2 _ rfl).1)));have Jj:=ah (And.intro Jq.1 (And.intro (Jn 0 _ rfl).1 (And.intro (Jn 1 _ rfl).1 (Jn 2 _ rfl).1)));have Ja:=ah Jq;have Jo:=ah Js;have Xb:=ah Jb;have J_:=ah Jd;have Jv:=ah Jc;have HF:=ah hF;clear Jb Jd Jc Js Jm Xa Jn Jq hF h12 Jy Jg h11 Jl Jk Xg Xi Yf;refine aX 12 (fun X=>X.cell? ⟨C.P,7,none⟩=some (.slice fa fn fc)/\X.cell? ⟨M,0,none⟩=some (.string nm)/\X.cell? ⟨M,1,none⟩=some (Value.slice pa pn pc)/\X.cell? ⟨M,2,none⟩=some (.slice ba bn bc)) k_ ?_;rw[<-Xb.out];refine tk 0 [9,10,11,12] HS.out ?_;refine tk 1 [2,3,4,5,8,12] HS.out ?_;refine tk 2 [3,4,5,8,12] HS.out ?_;refine tk 3 [4,5,8,12] HS.out ?_;refine tk 4 [5,8,12] HS.out ?_;refine tk 5 [8,12] HS.out ?_;refine tk 6 [7,8,12] HS.out ?_;clear HS;refine aw (i:=7) k_ rfl (fun K hK=>?_);go_simp;rw[<-J_.out,<-Jv.out];refine hK.out _ _ (fun _=>Xk) ?_;clear hK K;try simp only[Act.put,tA,tB,tC]
     refine aw (i:=8) k_ rfl (fun K hK=>?_);refine bm rfl (.tmp 44) (.tmp 46) 24 rfl (.slice fa fn fc) (.slice (some ⟨Yj,0,none⟩) 1 1) (.slice va vn vc) Ym rfl rfl Jo.out ?_;refine hK.out _ _ (fun _=>Jj) ?_;clear hK K Xk;try simp only[Act.put,tA,tB,tC]
     refine tk 9 [10,11,12] Jj.out ?_;refine tk 10 [11,12] Jj.out ?_;refine tk 11 [12] Jj.out ?_;clear Jj;have Xl:=Ja.out.1;have Yb:=Ja.out.2;refine aw (i:=12) k_ rfl (fun K hK=>?_);go_simp;refine hK.out _ _ (fun h=>absurd rfl h) ?_;clear hK K;refine aP k_ ?_ _;go_wp2_with fail;refine bodyPost_ret (results_none rfl _ _ _) rfl ?_;exact HF
    ·rw[hi]at Xu;cases Xu
   ·rcases hg with⟨Xu,-⟩|⟨-,hg⟩
    ·rw[hi]at Xu;cases Xu
    ·have Yp:=ah hp.dm;rcases hg.symm with hd|⟨-,rfl,z3,t3⟩
     ·have HF:Hid (jH C B w (ci t (.inr ⟨nm,ps,b⟩)) s2 e w3):=.inr (hd.later ((Yp.out.trans (bG _ _)).trans Xm) Xj.out.bb);obtain⟨-,rfl,-⟩:=hd;unfold a8 at*;go_wp2_with fail;exact⟨rfl,HF⟩
     have Jr:=Xj.out.go z3 t3;have Yv:o.length<=2000000:=t_ hp.acc (t_ Zd.out o_);cases gk with
     | zero=>cases hp using Pa_i
     | succ g=>
     rcases j_ hp with⟨h0,-⟩|⟨-,h0,-⟩|⟨-,-,Jh⟩
     ·exact absurd (dB Jr.bi.st.al) h0
     ·exact absurd h0 Zb
     obtain⟨xm,y2,Xe⟩:∃xm y2,dj (ai C.l) y.ad=(xm,y2):=⟨_,_,rfl⟩;have Xo:Hid (∀W,bj C m W y.ad->Calls prog 129 #[.pointer (some ⟨C.P,0,none⟩)] W (eV C m W y2 (.string xm))):=fun W h=>by
      have:=Yu.out W y.ad h
      rw[Xe]at this;exact this
     rw[Xe]at Jh;dsimp only at Jh;have Xh:Hid (Dm (ai C.l) y2 s2):=by
      rcases Jh with⟨-,-,e⟩|⟨hq,-⟩
      ·rw[<-e];exact(bG _ _).trans Xm.out
      ·exact Dm.no (cL hq).1
     have X_:=ah Yv;have Xx:Hid ((aC (ai C.l) [44] y2=false/\ps=o++[xm]/\s1=y2)∨(aC (ai C.l) [44] y2=true/\Pa (ai C.l) g (.pl (o++[xm])) y2.ad (.p ps) s1)):=by
      rcases Jh with h|⟨hq,k,e,h⟩
      ·exact .inl h
      ·exact .inr ⟨hq,by have e:g=k:=o_;rw[e];exact h⟩
     clear Jh Xe hp z3 t3 Yv Yh Xj Yp hi;obtain⟨W5,Xc⟩:=q_ w3.drew;have Xv:Bl w3 W5:=by rw[Xc];exact dD w3
     have Jp:=Jr.below Xv;have HC:=ah (Xo.out W5 Jp.bi.st);have HS:=ah (Jp.bi.q (j:=1) rfl).1;have Jt:=ah Jp;have Yn:=ah Xc;clear Xc Xv Jp Jr;go_upto_region 5 with fail;refine aX 7 (fun X=>X.cell? ⟨M,1,none⟩=some (Value.slice pa pn pc)) k_ ?_;rw[<-Yn.out];refine tk 0 [1,5,7] HS.out ?_;refine tk 1 [5,7] HS.out ?_;refine tk 2 [3,4,5,7] HS.out ?_;clear HS;refine aw (i:=3) k_ rfl (fun K hK=>?_);go_simp;refine HC.out.mono (fun e w6 hg=>?_);rcases hg.symm with hd|⟨-,rfl,z6,t6⟩
     ·have HF:Hid (jH C B w (ci t (.inr ⟨nm,ps,b⟩)) s2 e w6):=.inr (hd.later (Xh) Jt.out.bb);obtain⟨-,rfl,-⟩:=hd;unfold a8 at*;go_wp2_with fail;exact⟨rfl,HF⟩
     have Xf:=Jt.out.go z6 t6;clear z6 t6 HC Jt;obtain⟨W7,Xd⟩:=q_ (w6.alloc (.cells #[.string xm] 9));obtain⟨b7,Jz⟩:=q_ w6.heap.size;obtain⟨ua,un,uc,w8,r8,c7,c8,Xz⟩:=Xf.app xm X_.out Xd Jz;have c6:=(Xf.bi.q (j:=1) rfl).1;refine hK.out _ _ (fun _=>c6) ?_;clear hK K;try simp only[Act.put,tA,tB,tC]
     have Xr:=ah Xd;have Xq:=ah Jz;have Jo:=ah r8;have Xy:=ah Xz;have Xn:=ah c7;have Ja:=ah c8;clear Xd Jz r8 Xz Xf c6 c7 c8;refine aw (i:=4) k_ rfl (fun K hK=>?_);go_simp;rw[<-Xr.out,<-Xq.out];refine hK.out _ _ (fun _=>Xn) ?_;clear hK K;try simp only[Act.put,tA,tB,tC]
     refine aw (i:=5) k_ rfl (fun K hK=>?_);refine bm rfl (.tmp 26) (.tmp 29) 40 rfl (Value.slice pa pn pc) (.slice (some ⟨b7,0,none⟩) 1 1) (.slice ua un uc) w8 rfl rfl Jo.out ?_;refine hK.out _ _ (fun _=>Ja.out.1) ?_;clear hK K Xn;try simp only[Act.put,tA,tB,tC]
     refine tk 6 [7] Ja.out.1 ?_;have Xl:=Ja.out.1;have Yb:=Ja.out.2;refine aw (i:=7) k_ rfl (fun K hK=>?_);go_simp;refine hK.out _ _ (fun h=>absurd rfl h) ?_;clear hK K;refine aP k_ ?_ _;clear Xl Yb Ja Jo Xr Xq;have Yc:Hid (∃(o:List ByteArray) (pa:Option Addr) (pn pc:Nat) (y:PS),o≠[]/\((aC (ai C.l) [44] y=false/\ps=o/\s1=y)∨(aC (ai C.l) [44] y=true/\Pa (ai C.l) g (.pl o) y.ad (.p ps) s1))/\oC C m w M nm (.slice pa pn pc) o (w8.setCell ⟨M,1,none⟩ (.slice ua un uc)) y):=⟨_,ua,un,uc,y2,i_,Xx,Xy⟩;clear Xy Xx Xh Xo X_;go_wp2;go_roundg g
     case measure=>omega
     case rel=>exact Yc
section
variable{n B gk:Nat}{s s' z:PS}{C:RC}{m:TV}{w wr:World}{t t' t0:Tr}
theorem Tp.dm2{T:Nat->To}{x:Gl ⊕ Fu}(h:Tp T n s x s'):Dm T (dj T s).2 s':=by
 cases h using Tp_i with
 | fn ps s1 b _ h1 h2 h3=>exact((js _ _).trans h2.dm).trans ((bG _ _).trans h3.dm)
 | ga h1 h2=>exact(((js _ _).trans (rI _)).trans (bG _ _)).trans (bQ _ _)
 | gv h1 h2=>exact bQ _ _
theorem yj(HN:gW C)(hn:n<=1000000){x:Gl ⊕ Fu}(hx:Tp (ai C.l) n z x s')(hS:bj C m w (dj (ai C.l) z).2)(hT:sJ B w m t)(Ja:C.P+1<B)(hB:B<=w.heap.size)(hl:t.globals.length<=100000/\t.funcs.length<=100000)(Jb:∀f,x=.inr f->f.params.length<=1000000/\fJ f.body<=1000000):
  (aC (ai C.l) [40] (dj (ai C.l) z).2=true/\Calls prog 95 #[.pointer (some ⟨C.P,0,none⟩),.string (dj (ai C.l) z).1] w (jH C B w (ci t x) s')) ∨
  (aC (ai C.l) [40] (dj (ai C.l) z).2=false/\Calls prog 96 #[.pointer (some ⟨C.P,0,none⟩),.string (dj (ai C.l) z).1] w (jH C B w (ci t x) s')):=by
 cases hx using Tp_i with
 | fn ps s1 b _ h1 h2 h3=>exact .inl ⟨h1,uB HN hn _ hS hT Ja hB hl.2 h2 h3 (Jb _ rfl)⟩
 | ga h1 h2=>exact .inr ⟨h1,Ak HN _ hS hT Ja hB hl.1 h2⟩
 | gv h1 h2=>exact .inr ⟨h1,Aj HN _ hS hT Ja hB hl.1 h2⟩
structure A9 (C:RC) (B:Nat) (w:World) (n gk:Nat) (t':Tr) (s':PS) (m:TV) (t0:Tr) (z:PS) (wr:World):Prop where
 pg:nr (ai C.l) n gk z t0 t' s'
 st:bj C m wr z
 tr:sJ B wr m t0
 t:am (fun k=>k=C.P∨B<=k) w wr
 pb:C.P+1<B
 b:B<=w.heap.size
theorem A9.bb(h:A9 C B w n gk t' s' m t0 z wr):Kp C w wr:=jU h.t (fun k hk=>by have:=h.st.ok.hi;have:=h.pb;omega) (by have:=h.st.ok.hi;have:=h.pb;have:=h.b;omega)
theorem A9.bt{W:World}(h:A9 C B w n gk t' s' m t0 z wr)(ht:am (fun k=>k=C.P) wr W):Kp C w W:=h.bb.trans (h.st.tb ht)
theorem uC(HN:gW C)(hn:n<=1000000){k:Nat}(hp:nr (ai C.l) n k s t t' s')(Jv:zg C.K 0 t')(hK:C.K<=20000)(hS:bj C m w s)(hT:sJ B w m t)(Ju:C.P+1<B)(hB:B<=w.heap.size):
  Calls prog 59 #[.pointer (some ⟨C.P,0,none⟩)] w (jH C B w t' s'):=by
 have Jp:Hid (∃(m:TV) (t0:Tr) (z:PS),A9 C B w n k t' s' m t0 z w):=⟨m,t,s,hp,hS,hT,am.refl _ _,Ju,hB⟩;have Jo:=ah (And.intro Jv hK);have J_:=ah HN;have Xc:Hid (∀m W z,bj C m W z->Calls prog 92 #[.pointer (some ⟨C.P,0,none⟩),.string (tx [105,110,116])] W (eV C m W (bq (ai C.l) [105,110,116] z) (.tuple #[]))):=fun m W z h=>dt HN h [105,110,116] d_;have Jw:Hid (∀m W z,bj C m W (bq (ai C.l) [105,110,116] z)->Calls prog 93 #[.pointer (some ⟨C.P,0,none⟩)] W (eV C m W (dj (ai C.l) z).2 (.string (dj (ai C.l) z).1))):=fun m W z h=>gC HN h;have Jy:Hid (∀m W z,bj C m W z->Calls prog 94 #[.pointer (some ⟨C.P,0,none⟩),.string (tx [40])] W fun e w'=>e=.returned (.bool (aC (ai C.l) [40] z))/\w'=W):=fun m W z h=>du h [40] d_;clear hp hS hT Ju hB Jv hK HN;go_enter func59,ntmps59;go_wp2;go_loopg[] k (fun gk wr=>∃(m:TV) (t0:Tr) (z:PS),A9 C B w n gk t' s' m t0 z wr)
 case atStart=>exact Jp
 case round=>
  clear Jp;obtain⟨m,t0,z,h⟩:=hrel;obtain⟨tt,vl,Jk,-⟩:=h.st.bx;have p2:wr.cell? ⟨C.P,2,none⟩=some (.int .i64 (dF (ai C.l z.i))):=(Jk.box 2 _ rfl).1;have Jf:=Bi (t:=ai C.l z.i) (dE C.l z.i).1;clear Jk tt vl;by_cases h4:(ai C.l z.i).kind=4
  ·obtain⟨rfl,rfl⟩:=h.pg.end' (.inr h4);rw[Jf.2 h4]at p2;have HF:Hid (jH C B w t' s' (.returned (.tuple #[])) wr):=.inl ⟨h.st.al,m,rfl,h.st,h.tr,h.t⟩;clear h Jf h4;go_wp2_with fail;refine bodyPost_ret (results_none rfl _ _ _) rfl ?_;exact HF
  ·have Jx:¬dF (ai C.l z.i)=0:=fun e=>h4 (Jf.1 e);have Xd:(dF (ai C.l z.i) != 0)=true:=by simpa using Jx
   obtain⟨g,x,s1,rfl,hx,Ja⟩:=h.pg.more' (dB h.st.al) h4;obtain⟨Je,Jc⟩:=Ja.sizes Jo.out.1 Jo.out.2;have Jl:Hid (Dm (ai C.l) s1 s'):=Ja.pg.dm;have Jr:Hid (Dm (ai C.l) (dj (ai C.l) z).2 s'):=hx.dm2.trans Ja.pg.dm;have Xa:Hid (Dm (ai C.l) (bq (ai C.l) [105,110,116] z) s'):=(gU _).trans Jr;have Js:Hid (∀W,bj C m W (dj (ai C.l) z).2->am (fun k=>k=C.P) wr W->(aC (ai C.l) [40] (dj (ai C.l) z).2=true/\Calls prog 95 #[.pointer (some ⟨C.P,0,none⟩),.string (dj (ai C.l) z).1] W (jH C B W (ci t0 x) s1))∨(aC (ai C.l) [40] (dj (ai C.l) z).2=false/\Calls prog 96 #[.pointer (some ⟨C.P,0,none⟩),.string (dj (ai C.l) z).1] W (jH C B W (ci t0 x) s1))):=fun W hW ht=>yj J_.out hn hx hW (h.tr.tcs ht (fun k hk=>by rw[hk];have:=h.pb;omega)) h.pb (t_ h.b (t_ h.t.size ht.size)) Jc Je;have Jm:=ah (Xc.out m wr z h.st);have Xb:Hid (∀W,bj C m W (bq (ai C.l) [105,110,116] z)->Calls prog 93 #[.pointer (some ⟨C.P,0,none⟩)] W (eV C m W (dj (ai C.l) z).2 (.string (dj (ai C.l) z).1))):=fun W hW=>Jw.out m W z hW;have HH:=ah h;have Jn:=ah Ja;generalize dj (ai C.l) z=hz at*;obtain⟨nm,y⟩:=hz;dsimp only at*;generalize bq (ai C.l) [105,110,116] z=z1 at*;generalize dF (ai C.l z.i)=ki at*;clear h Ja hx Je Jc Jf h4;go_wp2_with fail;refine Jm.out.mono (fun e w2 hg=>?_);rcases hg.symm with hd|⟨-,rfl,z2,t2⟩
   ·have HF:Hid (jH C B w t' s' e w2):=.inr (hd.later (Xa) (HH.out.bb));obtain⟨-,rfl,-⟩:=hd;unfold a8 at*;go_wp2_with fail;exact⟨rfl,HF⟩
   have Jq:=ah (Xb.out w2 z2);have Jj:=ah t2;clear z2 t2 Jm p2;go_wp2_with fail;refine Jq.out.mono (fun e w3 hg=>?_);rcases hg.symm with hd|⟨-,rfl,z3,t3⟩
   ·have HF:Hid (jH C B w t' s' e w3):=.inr (hd.later (Jr) (HH.out.bt Jj));obtain⟨-,rfl,-⟩:=hd;unfold a8 at*;go_wp2_with fail;exact⟨rfl,HF⟩
   have Ji:=Jj.out.trans t3;have Jg:=ah Ji;have Jt:=ah (Jy.out m w3 y z3);have Jz:=Js.out w3 z3 Ji;clear z3 t3 Jq Jj Ji Js;go_wp2_with fail;refine Jt.out.mono ?_;rintro e w4 ⟨rfl,hw⟩;rw[hw];clear hw Jt;rcases Jz with⟨hi,hc⟩|⟨hi,hc⟩
   ·rw[hi];have HC:=ah hc;clear hc hi;go_wp2_with fail;refine HC.out.mono (fun e w5 hg=>?_);rcases hg.symm with hd|⟨-,m',rfl,Jd,Jb,t5⟩
    ·have HF:Hid (jH C B w t' s' e w5):=.inr (hd.later (Jl) (HH.out.bt Jg));obtain⟨-,rfl,-⟩:=hd;unfold a8 at*;go_wp2_with fail;exact⟨rfl,HF⟩
    have Jh:Hid (∃(m:TV) (t0:Tr) (z:PS),A9 C B w n g t' s' m t0 z w5):=⟨m',_,s1,Jn,Jd,Jb,(HH.out.t.trans (Jg.out.mono fun k hk=>.inl hk)).trans t5,HH.out.pb,HH.out.b⟩;clear Jd Jb t5;go_wp2;go_roundg g
    case measure=>omega
    case rel=>exact Jh
   ·rw[hi];have HC:=ah hc;clear hc hi;go_wp2_with fail;refine HC.out.mono (fun e w5 hg=>?_);rcases hg.symm with hd|⟨-,m',rfl,Jd,Jb,t5⟩
    ·have HF:Hid (jH C B w t' s' e w5):=.inr (hd.later (Jl) (HH.out.bt Jg));obtain⟨-,rfl,-⟩:=hd;unfold a8 at*;go_wp2_with fail;exact⟨rfl,HF⟩
    have Jh:Hid (∃(m:TV) (t0:Tr) (z:PS),A9 C B w n g t' s' m t0 z w5):=⟨m',_,s1,Jn,Jd,Jb,(HH.out.t.trans (Jg.out.mono fun k hk=>.inl hk)).trans t5,HH.out.pb,HH.out.b⟩;clear Jd Jb t5;go_wp2;go_roundg g
    case measure=>omega
    case rel=>exact Jh
end
end Go.Proofs.YtlamjfhhefcohaaGreatDoor
