import Derived.Test.YtlamjfhhefcohaaGreatDoorP17
import Derived.Test.YtlamjfhhefcohaaGreatDoorP14
import Derived.Test.YtlamjfhhefcohaaGreatDoorP43
import Derived.Test.YtlamjfhhefcohaaGreatDoorP20
namespace Go.Proofs.YtlamjfhhefcohaaGreatDoor
open Go.Proofs.Tryz
open Go.RowKit
set_option linter.all false
set_option maxRecDepth 100000
set_option maxHeartbeats 16000000
variable[Inhabited Pick]
section
variable{r:List UInt8}
theorem lS(b o n cap hi:Nat)(h2:hi<=n)(h3:n<=cap)(w:World):(Instr.slice 22 (.slice (some ⟨b,o,none⟩) n cap) none (some (.int .i64 (hi:Int))) none).run prog w=.ok (.slice (some ⟨b,o,none⟩) hi cap) w:=by
 have hz:prog.elem 22=5:=k_;have hs:(sizeOf 5).run prog w=.ok 1 w:=k_;rw[run_slice_h w 22 _ n cap (by rw[hz];exact underlying22) .i64 _ o_ o_,hz,hs];simp only[Result.andThen,sliced,Int.toNat_natCast];simp[Addr.add]
theorem pT{W:World}{b o:Nat}(h:lX W b o r)(c d:Nat)(hd:d<=r.length):(convert 22 9 (.slice (some ⟨b,o,none⟩) d c)).run prog W=.ok (.string (tx (r.take d))) W:=by
 have hl:(r.take d).length=d:=by rw[List.length_take];omega
 have:=run_convert_bytes_back (P:=prog) W 22 9 5 ⟨b,o,none⟩ c (r.take d) underlying22 underlying5 underlying9 (λj hj=>by
  rw[List.getElem_take,mB];exact h j o_)
 rw[hl]at this;exact this
def oA:List UInt8:=[40,41,123,125,91,93,59,44,61,124,94,38,60,62,43,45,42,47,37,33,126]
theorem yB(c:UInt8):c∈oA↔c∈fK:=by
 constructor
 ·intro h;have:∀x∈oA,x∈fK:=d_
  exact this c h
 ·intro h;have:∀x∈fK,x∈oA:=d_
  exact this c h
theorem As{c:UInt8}{q:List UInt8}(hr:r=c::q)(h2:r.take 2∉ew):(c∈fK->bD r=[c])/\(c∉fK->bD r=[]):=by
 have e1:r.take 1=[c]:=by rw[hr];rfl
 have hm:(r.take 1∈fK.map (λc=>[c]))↔c∈fK:=by
  rw[e1];simp
 unfold bD;rw[if_neg h2];exact⟨λh=>by rw[if_pos (hm.2 h),e1],λh=>by rw[if_neg (λh'=>h (hm.1 h'))]⟩
theorem C7(x:List UInt8):(tx x).toList=x:=by unfold tx;rw[ByteArray.toList_eq]
theorem Au(c:UInt8):(cI c).toNat.toUInt8=c:=by
 unfold cI;simp
theorem yC(h:r.take 2∈ew):2<=r.length:=by
 have l2:∀x∈ew,x.length=2:=d_
 have:=l2 _ h
 rw[List.length_take]at this;omega
theorem pU(b o cap:Nat)(r:List UInt8)(w:World)(h0:0<r.length)(hl:r.length<=1000000)(Ji:r.length<=cap)(hc:lX w b o r):
  Calls prog 125 #[.slice (some ⟨b,o,none⟩) r.length cap] w λe w'=>e=.returned (.int .i64 ((bD r).length:Int))/\w'=w:=by
 by_cases h2:r.take 2∈ew
 ·have Jg:=yC h2;have Jd:=lS b o r.length cap 2 Jg Ji;have Jc:=pT hc cap 2 Jg;have HS:Hid ((bD r).length=2):=by
   show _=_;unfold bD;rw[if_pos h2,List.length_take];omega
  generalize bD r=sy at*;have Jf:(1:Int)<(r.length:Int):=o_;simp only[ew,List.mem_cons,List.not_mem_nil,or_false]at h2;rcases h2 with e|e|e|e|e|e|e|e;all_goals
   rw[e]at Jc;unfold tx at Jc;clear hc e;go_enter func125,ntmps125;go_wp2;go_ret;exact⟨by rw[HS.out];rfl,rfl⟩
 ·obtain⟨c,q,hr⟩:∃c q,r=c::q:=by
   cases r with
   | nil=>exact absurd h0 i_
   | cons c q=>exact⟨c,q,rfl⟩
  obtain⟨s1,s2⟩:=As hr h2;have Jk:w.cell? ⟨b,o,none⟩=some (.int .u8 (cI c)):=by
   have:=hc 0 h0
   rw[Nat.add_zero]at this;rw[this];subst hr;rfl
  have Jh:=ah (λW=>Tryz.strings_IndexByte ⟨#[40,41,123,125,91,93,59,44,61,124,94,38,60,62,43,45,42,47,37,33,126]⟩ (cI c) W);have Je:0<=Lib.indexByte oA c↔c∈fK:=(wA oA c).trans (yB c);have hu:=Au c;have Ja:Hid (∀W,Calls prog 156 #[.string ⟨#[40,41,123,125,91,93,59,44,61,124,94,38,60,62,43,45,42,47,37,33,126]⟩,.int .u8 (cI c)] W λe w'=>e=.returned (.int .i64 (Lib.indexByte oA c))/\w'=W):=λW=>by
   have h:=Jh.out W;rw[hu]at h;exact h
  have Jl: -1<=Lib.indexByte oA c:=Lib.indexByte_ge _ _;have HN:Hid (((bD r).length:Int)=if 0<=Lib.indexByte oA c then 1 else 0):=by
   show _=_;by_cases hm:c∈fK
   ·rw[if_pos (Je.2 hm),s1 hm];rfl
   ·rw[if_neg (λh=>hm (Je.1 h)),s2 hm];rfl
  generalize Lib.indexByte oA c=ix at*;generalize bD r=sy at*;clear Jh s1 s2 hu Je hr;have hq:∀x∈ew,((tx (r.take 2)).toList == x)=false:=λx hx=>by
   rw[<-C7 x,str_eq,decide_eq_false];intro e;exact h2 (by rw[nf e];exact hx)
  by_cases Jf:1<r.length
  ·have Jd:=lS b o r.length cap 2 Jf Ji;have Jc:=pT hc cap 2 Jf;have Jb:(1:Int)<(r.length:Int):=o_
   have q1:=hq [124,124] d_;have q2:=hq [38,38] d_;have q3:=hq [61,61] d_;have q4:=hq [33,61] d_;have q5:=hq [60,61] d_;have q6:=hq [62,61] d_;have q7:=hq [60,60] d_;have q8:=hq [62,62] d_;generalize tx (r.take 2)=yy at*;generalize cI c=cc at*;clear hq hc h2;by_cases hm:0<=ix
   ·rw[if_pos hm]at HN;go_enter func125,ntmps125;go_wp2_with(go_at_call 156;refine(Ja.out _).mono ?_;rintro e w' ⟨rfl,rfl⟩)
    go_ret;exact⟨by rw[HN.out];rfl,rfl⟩
   ·rw[if_neg hm]at HN;go_enter func125,ntmps125;go_wp2_with(go_at_call 156;refine(Ja.out _).mono ?_;rintro e w' ⟨rfl,rfl⟩)
    go_ret;exact⟨by rw[HN.out];rfl,rfl⟩
  ·have Jb:¬(1:Int)<(r.length:Int):=o_
   have Jj:(0:Int)<(r.length:Int):=o_;generalize cI c=cc at*;clear hq hc h2;by_cases hm:0<=ix
   ·rw[if_pos hm]at HN;go_enter func125,ntmps125;go_wp2_with(go_at_call 156;refine(Ja.out _).mono ?_;rintro e w' ⟨rfl,rfl⟩)
    go_ret;exact⟨by rw[HN.out];rfl,rfl⟩
   ·rw[if_neg hm]at HN;go_enter func125,ntmps125;go_wp2_with(go_at_call 156;refine(Ja.out _).mono ?_;rintro e w' ⟨rfl,rfl⟩)
    go_ret;exact⟨by rw[HN.out];rfl,rfl⟩
end
section
variable{C:RC}{w:World}{pos pl op:Int}{m:TV}
def qd(C:RC)(w:World)(pos pl:Int)(m:TV)(op:Int)(ok:Prop)(kd:Int)(tt:ByteArray)(vl:Int)(e:Ending)(w':World):Prop:=
 (ok/\e=.returned (.tuple #[])/\jz C w' pos kd tt vl pl m op/\am (λk=>k=C.P) w w')∨(¬ok/\e=a8 (2,pl)/\Below w.heap.size w w')
theorem C8(hC:uV C)(h:jz C w pos 0 ⟨#[]⟩ 0 pl m op)(x:List UInt8)(hx:x.length<=1000000)(ok:Prop)(Je:ok↔x.length<=20)(kd:Int)(Jb:kd=if dZ (tx x)=true then 3 else 1):
  Calls prog 87 #[.pointer (some ⟨C.P,0,none⟩),.string (tx x)] w (qd C w pos pl m op ok kd (tx x) 0):=by
 have Ja:=ah Je;clear Je;have Jg:(tx x).size=x.length:=tx_size x;have Jf:=ah (dW h 2);by_cases h20:x.length<=20
 ·have c2:=(h.box 2 _ rfl).1;have f2:=(h.box 2 _ rfl).2;have c3:=(h.box 3 _ rfl).1;have f3:=(h.box 3 _ rfl).2;obtain⟨h1,t1⟩:=h.put hC (kd':=1) 2 (.int .i64 1) rfl;obtain⟨h2,t2⟩:=h1.put hC (tt':=tx x) 3 (.string (tx x)) rfl;obtain⟨W2,Jc⟩:=q_ ((w.setCell ⟨C.P,2,none⟩ (.int .i64 1)).setCell ⟨C.P,3,none⟩ (.string (tx x)));rw[<-Jc]at h2 t2;obtain⟨h3,t3⟩:=h2.put hC (kd':=3) 2 (.int .i64 3) rfl;have d2:=(h2.box 2 _ rfl).1;have e2:=(h2.box 2 _ rfl).2;have Jd:=ah Jc;have Jh:¬(20:Int)<(x.length:Int):=o_
  cases hr:dZ (tx x)with
  | true=>
   have HF:Hid (qd C w pos pl m op ok kd (tx x) 0 (.returned (.tuple #[])) (W2.setCell ⟨C.P,2,none⟩ (.int .i64 3))):=.inl ⟨Ja.out.2 h20,rfl,by rw[Jb,hr,if_pos rfl];exact h3,(t1.trans t2).trans t3⟩;clear h h1 h2 h3 t1 t2 t3 Jc Jb Ja;generalize tx x=xx at*;go_enter func87,ntmps87;go_upto_region 3 with fail;rw[<-Jd.out];go_wp2_with(go_at_call 110;refine(kW _ _).mono ?_;rintro e w' ⟨rfl,rfl⟩;rw[hr]);exact bodyPost_end (v:=.tuple #[]) (by simp[results,results87,go_sem]) rfl HF
  | false=>
   have HF:Hid (qd C w pos pl m op ok kd (tx x) 0 (.returned (.tuple #[])) W2):=.inl ⟨Ja.out.2 h20,rfl,by rw[Jb,hr,if_neg i_];exact h2,t1.trans t2⟩;clear h h1 h2 h3 t1 t2 t3 Jc Jb Ja;generalize tx x=xx at*;go_enter func87,ntmps87;go_upto_region 3 with fail;rw[<-Jd.out];go_wp2_with(go_at_call 110;refine(kW _ _).mono ?_;rintro e w' ⟨rfl,rfl⟩;rw[hr]);exact bodyPost_end (v:=.tuple #[]) (by simp[results,results87,go_sem]) rfl HF
 ·have Ji:(20:Int)<(x.length:Int):=o_
  have HF:Hid (∀kd tt vl,qd C w pos pl m op ok kd tt vl (a8 (2,pl)) w):=λ_ _ _=>.inr ⟨λe=>h20 (Ja.out.1 e),rfl,r_⟩;clear h Jb Ja;generalize tx x=xx at*;go_enter func87,ntmps87;go_wp2_with fail;refine Jf.out.mono ?_;rintro e w9 ⟨rfl,hw⟩;rw[hw];clear hw;unfold a8 at*;go_wp2_with fail;exact⟨rfl,HF.out _ _ _⟩
theorem C9(hC:uV C)(h:jz C w pos 0 ⟨#[]⟩ 0 pl m op)(b o cap:Nat)(r:List UInt8)(h0:0<r.length)(hl:r.length<=1000000)(Jd:r.length<=cap)(hc:lX w b o r)(ok:Prop)(Je:ok↔bD r≠[]):
  Calls prog 91 #[.pointer (some ⟨C.P,0,none⟩),.slice (some ⟨b,o,none⟩) r.length cap] w (qd C w pos pl m op ok 3 (tx (bD r)) 0):=by
 have Ja:=ah Je;clear Je;obtain⟨HS,Jg⟩:=h2 (pU b o cap r w h0 hl Jd hc) (dW h 2);have Jb:=(jr r).1;have Jc:r.take (bD r).length=bD r:=by
  unfold bD;split
  ·rw[List.length_take];by_cases h2:2<=r.length
   ·rw[Nat.min_eq_left h2]
   ·rw[Nat.min_eq_right o_,List.take_of_length_le n_,List.take_of_length_le o_]
  ·split
   ·rw[List.length_take];by_cases h2:1<=r.length
    ·rw[Nat.min_eq_left h2]
    ·rw[Nat.min_eq_right o_,List.take_of_length_le n_,List.take_of_length_le o_]
   ·rfl
 have Jh:=lS b o r.length cap (bD r).length Jb Jd;have Jf:=pT hc cap (bD r).length Jb;rw[Jc]at Jf;by_cases hs:bD r=[]
 ·have HF:Hid (∀kd tt vl,qd C w pos pl m op ok kd tt vl (a8 (2,pl)) w):=λ_ _ _=>.inr ⟨λe=>Ja.out.1 e hs,rfl,r_⟩;have hz:(bD r).length=0:=by rw[hs];rfl
  rw[hz]at HS;generalize bD r=sy at*;go_enter func91,ntmps91;go_wp2_with fail;refine HS.out.mono ?_;rintro e w9 ⟨rfl,hw⟩;rw[hw];clear hw;go_wp2_with fail;refine Jg.out.mono ?_;rintro e w9 ⟨rfl,hw⟩;rw[hw];unfold a8 at*;go_wp2_with fail;exact⟨rfl,HF.out _ _ _⟩
 ·have c2:=(h.box 2 _ rfl).1;have f2:=(h.box 2 _ rfl).2;have c3:=(h.box 3 _ rfl).1;have f3:=(h.box 3 _ rfl).2;obtain⟨h1,t1⟩:=h.put hC (kd':=3) 2 (.int .i64 3) rfl;obtain⟨h2,t2⟩:=h1.put hC (tt':=tx (bD r)) 3 (.string (tx (bD r))) rfl;have HF:Hid (qd C w pos pl m op ok 3 (tx (bD r)) 0 (.returned (.tuple #[])) ((w.setCell ⟨C.P,2,none⟩ (.int .i64 3)).setCell ⟨C.P,3,none⟩ (.string (tx (bD r))))):=.inl ⟨Ja.out.2 hs,rfl,h2,t1.trans t2⟩;have Ji:(((bD r).length:Int) == 0)=false:=by
   have:(bD r).length≠0:=λe=>hs (List.eq_nil_of_length_eq_zero e)
   simp only[beq_eq_false_iff_ne];omega
  clear h h1 h2 t1 t2 hc Jb hs Jc Ja;generalize tx (bD r)=ts at*;generalize hln:(bD r).length=ln at*;go_enter func91,ntmps91;go_wp2_with fail;refine HS.out.mono ?_;rintro e w9 ⟨rfl,hw⟩;rw[hw];clear hw;go_wp2_with fail;exact bodyPost_end (v:=.tuple #[]) (by simp[results,results91,go_sem]) rfl HF
end
theorem Av(c:UInt8)(q:List UInt8)(W:World):(Instr.index 9 (.string (tx (c::q))) (.int .i64 0)).run prog W=.ok (.int .u8 (cI c)) W:=by
 have h:0<(tx (c::q)).size:=by rw[tx_size];simp
 simp[go_sem,h];unfold cI tx;rfl
def ru(r:List UInt8)(c:UInt8)(d:Nat):Prop:=(c=48/\1<d)∨2147483647<numL (r.take d)∨((r.drop d).head?.map cG).getD false=true
theorem FQ(c:UInt8):(cI c == 48)=decide (c=48):=by
 unfold cI;apply Bool.eq_iff_iff.2;simp only[beq_iff_eq,decide_eq_true_eq];constructor
 ·intro h;apply UInt8.toNat_inj.1;show c.toNat=48;omega
 ·rintro rfl;rfl
theorem Da{C:RC}{w:World}{Jg pl:Int}{m:TV}{op:Int}(hC:uV C)(h:jz C w Jg 0 ⟨#[]⟩ 0 pl m op)(b o cap:Nat)(hb:b<w.heap.size)(c:UInt8)(q:List UInt8)(hl:(c::q).length<=1000000)(Xe:(c::q).length<=cap)(hc:lX w b o (c::q))(Jw:aO c=true)(ok:Prop)(Jz:ok ↔ ¬ru (c::q) c ((c::q).takeWhile aO).length):
  Calls prog 90 #[.pointer (some ⟨C.P,0,none⟩),.slice (some ⟨b,o,none⟩) (c::q).length cap] w (qd C w Jg pl m op ok 2 (tx ((c::q).takeWhile aO)) (numL ((c::q).takeWhile aO):Int)):=by
 have Jy:=ah (uk b o cap (c::q) w hl hc);have Xk:1<=((c::q).takeWhile aO).length:=qj aO c q Jw;have Jp:((c::q).takeWhile aO).length<=(c::q).length:=ib aO _;have Ju:(c::q).take ((c::q).takeWhile aO).length=(c::q).takeWhile aO:=by
  rw[kV aO (c::q) ((c::q).takeWhile aO).length Jp (λk hk hkd=>rR aO _ k hkd hk) (λhk=>rQ aO _ hk),List.length_take,Nat.min_eq_left Jp]
 have Jo:∀x∈(c::q).takeWhile aO,aO x=true:=λx hx=>by
  have:=List.all_takeWhile (p:=aO) (l:=c::q)
  rw[List.all_eq_true]at this;exact this x hx
 have Xa:=lS b o (c::q).length cap _ Jp Xe;have J_:=pT hc cap _ Jp;rw[Ju]at J_;obtain⟨q',Jv⟩:∃q',(c::q).takeWhile aO=c::q':=by
  rw[List.takeWhile_cons,if_pos Jw];exact⟨_,rfl⟩
 have Xd:=λW=>Av c q' W;rw[<-Jv]at Xd;obtain⟨p1,p2⟩:=EX (l:=(c::q).takeWhile aO) (by rw[Jv];simp) Jo;have Jr:(tx ((c::q).takeWhile aO)).data.toList=(c::q).takeWhile aO:=by unfold tx;simp
 have Jc:=ah Jz;unfold ru at Jc;rw[Ju]at Jc;have Xg:(tx ((c::q).takeWhile aO)).size<=1000000:=by rw[tx_size];omega
 obtain⟨ev,Jk,Jm⟩:=h.er;have Jt:Hid (∀W,Bl w W->numL ((c::q).takeWhile aO)<=2147483647->Calls prog 124 #[.string (tx ((c::q).takeWhile aO)),.int .i64 10,.int .i64 32] W λe w'=>e=.returned (.tuple #[.int .i64 (numL ((c::q).takeWhile aO):Int),.nilIface])/\Bl W w'):=λW hW hn=>by
  refine(Tryz.strconv_ParseInt_10_at32_ok _ o_ _ (by rw[Jr];exact p1 hn) W).mono ?_;rintro e w' ⟨rfl,rfl|⟨t,rfl⟩⟩
  ·exact⟨rfl,r_⟩
  ·exact⟨rfl,bytesWorld_below W 5 t⟩
 have Jx:=b_ Jk;have Js:Hid (∀W,Bl w W->¬numL ((c::q).takeWhile aO)<=2147483647->Calls prog 124 #[.string (tx ((c::q).takeWhile aO)),.int .i64 10,.int .i64 32] W λe w'=>∃x y z,e=.returned (.tuple #[.int .i64 x,.iface y z])/\Bl W w'):=λW hW hn=>by
  refine(Tryz.strconv_ParseInt_10_at32_range _ o_ (by rw[Jr];exact p2 hn) ev W ((hW.cell (p:=⟨4,0,none⟩) Jx).trans Jk) Jm).mono ?_;rintro e w' ⟨N,rfl,-,-,hB⟩;exact⟨_,_,_,rfl,hB⟩
 obtain⟨HR,HC⟩:=h2 h hc;have Je:=FQ c;have Ji:((c::q).takeWhile aO).length<(c::q).length->((c::q).drop ((c::q).takeWhile aO).length).head? =(c::q)[((c::q).takeWhile aO).length]? := λ_=>by rw[List.head?_drop]
 have Jh:¬((c::q).takeWhile aO).length<(c::q).length->((c::q).drop ((c::q).takeWhile aO).length).head? =none:=λhh=>by rw[List.head?_drop,List.getElem?_eq_none o_]
 obtain⟨Xc,Xb⟩:=h2 Ji Jh;clear h hc p1 p2 Ju Jo Jr Jz Jw Jv Ji Jh Jk Jm Jx;generalize hds:(c::q).takeWhile aO=ds at*;clear hds;have Xh:=ah (λ(h:(numL ds:Nat)<=2147483647)=>(by omega:((numL ds:Nat):Int)<=2147483647));generalize htt:tx ds=ts at*;clear htt;generalize hnn:((numL ds:Nat):Int)=nv at*;generalize hrr:c::q=r at*;generalize hcc:cI c=cc at*;obtain⟨Xf,Xj⟩:=h2 hcc hnn;clear hrr hcc hnn;generalize hdl:ds.length=d at*;clear hdl;by_cases hn:numL ds<=2147483647
 ·go_enter func90,ntmps90;go_wp2_with fail;refine Jy.out.mono ?_;rintro e w9 ⟨rfl,hw⟩;rw[hw];clear hw;obtain⟨HP,Jq⟩:=h2 (Jt.out w r_ hn) hn;clear hn Jt Js;go_wp2_with fail;refine HP.out.mono ?_;rintro e w2 ⟨rfl,Jb⟩;have Ja:=HR.out.below hC Jb;have Jf:lX w2 b o r:=λj hj=>(Jb.cell (p:=⟨b,o+j,none⟩) hb).trans (HC.out j hj);by_cases h48:c=48/\1<d
  ·have g1:(cc == 48)=true:=by rw[Je];simp[h48.1]
   have g2:(1:Int)<(d:Int):=by have:=h48.2;omega
   clear Je;have HF:Hid (qd C w Jg pl m op ok 2 ts nv (a8 (2,pl)) w2):=.inr ⟨λe=>Jc.out.1 e (.inl h48),rfl,Jb⟩;have Jj:=ah (dW Ja 2);clear Ja Jf Jc Jb;go_wp2_with fail;refine Jj.out.mono ?_;rintro e w9 ⟨rfl,hw⟩;rw[hw];clear hw;unfold a8 at*;go_wp2_with fail;exact⟨rfl,HF⟩
  ·by_cases hlt:d<r.length
   ·have Xi:=Jf d hlt;have g3:(d:Int)<(r.length:Int):=o_
    have Jl:=Xc.out hlt;rw[List.getElem?_eq_getElem hlt]at Jl;cases hsm:smallB (cI r[d])with
    | true=>
     have Jn:((r.drop d).head?.map cG).getD false=true:=by rw[Jl];exact hsm
     generalize cI r[d]=cd at*;by_cases h4:c=48
     ·have g1:(cc == 48)=true:=by rw[Je];simp[h4]
      have g2:¬(1:Int)<(d:Int):=λhh=>h48 ⟨h4,o_⟩;clear Je;have HF:Hid (qd C w Jg pl m op ok 2 ts nv (a8 (2,pl)) w2):=.inr ⟨λe=>Jc.out.1 e (.inr (.inr Jn)),rfl,Jb⟩;have Jj:=ah (dW Ja 2);clear Ja Jf Jc Jb;go_wp2_with(go_at_call 86;refine(cQ _ _).mono ?_;rintro e w' ⟨rfl,rfl⟩;rw[hsm])
      refine Jj.out.mono ?_;rintro e w9 ⟨rfl,hw⟩;rw[hw];clear hw;unfold a8 at*;go_wp2_with fail;exact⟨rfl,HF⟩
     ·have g1:(cc == 48)=false:=by rw[Je];simp[h4]
      clear Je;have HF:Hid (qd C w Jg pl m op ok 2 ts nv (a8 (2,pl)) w2):=.inr ⟨λe=>Jc.out.1 e (.inr (.inr Jn)),rfl,Jb⟩;have Jj:=ah (dW Ja 2);clear Ja Jf Jc Jb;go_wp2_with(go_at_call 86;refine(cQ _ _).mono ?_;rintro e w' ⟨rfl,rfl⟩;rw[hsm]);refine Jj.out.mono ?_;rintro e w9 ⟨rfl,hw⟩;rw[hw];clear hw;unfold a8 at*;go_wp2_with fail;exact⟨rfl,HF⟩
    | false=>
     have Jd:¬((c=48/\1<d)∨2147483647<numL ds∨((r.drop d).head?.map cG).getD false=true):=by
      rintro(hh|hh|hh)
      ·exact h48 hh
      ·have:=Jq.out;omega
      ·rw[Jl]at hh;have:cG r[d]=true:=hh
       unfold cG at this;rw[hsm]at this;cases this
     generalize cI r[d]=cd at*;by_cases h4:c=48
     ·have g1:(cc == 48)=true:=by rw[Je];simp[h4]
      have g2:¬(1:Int)<(d:Int):=λhh=>h48 ⟨h4,o_⟩;clear Je;have c2:=(Ja.box 2 _ rfl).1;have f2:=(Ja.box 2 _ rfl).2;have c3:=(Ja.box 3 _ rfl).1;have f3:=(Ja.box 3 _ rfl).2;have c4:=(Ja.box 4 _ rfl).1;have f4:=(Ja.box 4 _ rfl).2;obtain⟨h1,t1⟩:=Ja.put hC (kd':=2) 2 (.int .i64 2) rfl;obtain⟨h2,t2⟩:=h1.put hC (tt':=ts) 3 (.string ts) rfl;obtain⟨h3,t3⟩:=h2.put hC (vl':=nv) 4 (.int .i64 nv) rfl;have HF:Hid (qd C w Jg pl m op ok 2 ts nv (.returned (.tuple #[])) (((w2.setCell ⟨C.P,2,none⟩ (.int .i64 2)).setCell ⟨C.P,3,none⟩ (.string ts)).setCell ⟨C.P,4,none⟩ (.int .i64 nv))):=.inl ⟨Jc.out.2 Jd,rfl,h3,((Jb.tcs.trans t1).trans t2).trans t3⟩;clear h1 h2 h3 t1 t2 t3 Ja Jf Jc Jb;go_wp2_with(go_at_call 86;refine(cQ _ _).mono ?_;rintro e w' ⟨rfl,rfl⟩;rw[hsm])
      exact bodyPost_end (v:=.tuple #[]) (by simp[results,results90,go_sem]) rfl HF
     ·have g1:(cc == 48)=false:=by rw[Je];simp[h4]
      clear Je;have c2:=(Ja.box 2 _ rfl).1;have f2:=(Ja.box 2 _ rfl).2;have c3:=(Ja.box 3 _ rfl).1;have f3:=(Ja.box 3 _ rfl).2;have c4:=(Ja.box 4 _ rfl).1;have f4:=(Ja.box 4 _ rfl).2;obtain⟨h1,t1⟩:=Ja.put hC (kd':=2) 2 (.int .i64 2) rfl;obtain⟨h2,t2⟩:=h1.put hC (tt':=ts) 3 (.string ts) rfl;obtain⟨h3,t3⟩:=h2.put hC (vl':=nv) 4 (.int .i64 nv) rfl;have HF:Hid (qd C w Jg pl m op ok 2 ts nv (.returned (.tuple #[])) (((w2.setCell ⟨C.P,2,none⟩ (.int .i64 2)).setCell ⟨C.P,3,none⟩ (.string ts)).setCell ⟨C.P,4,none⟩ (.int .i64 nv))):=.inl ⟨Jc.out.2 Jd,rfl,h3,((Jb.tcs.trans t1).trans t2).trans t3⟩;clear h1 h2 h3 t1 t2 t3 Ja Jf Jc Jb;go_wp2_with(go_at_call 86;refine(cQ _ _).mono ?_;rintro e w' ⟨rfl,rfl⟩;rw[hsm]);exact bodyPost_end (v:=.tuple #[]) (by simp[results,results90,go_sem]) rfl HF
   ·have g3:¬(d:Int)<(r.length:Int):=o_
    have Jl:=Xb.out hlt;have Jd:¬((c=48/\1<d)∨2147483647<numL ds∨((r.drop d).head?.map cG).getD false=true):=by
     rintro(hh|hh|hh)
     ·exact h48 hh
     ·have:=Jq.out;omega
     ·rw[Jl]at hh;simp at hh
    by_cases h4:c=48
    ·have g1:(cc == 48)=true:=by rw[Je];simp[h4]
     have g2:¬(1:Int)<(d:Int):=λhh=>h48 ⟨h4,o_⟩;clear Je;have c2:=(Ja.box 2 _ rfl).1;have f2:=(Ja.box 2 _ rfl).2;have c3:=(Ja.box 3 _ rfl).1;have f3:=(Ja.box 3 _ rfl).2;have c4:=(Ja.box 4 _ rfl).1;have f4:=(Ja.box 4 _ rfl).2;obtain⟨h1,t1⟩:=Ja.put hC (kd':=2) 2 (.int .i64 2) rfl;obtain⟨h2,t2⟩:=h1.put hC (tt':=ts) 3 (.string ts) rfl;obtain⟨h3,t3⟩:=h2.put hC (vl':=nv) 4 (.int .i64 nv) rfl;have HF:Hid (qd C w Jg pl m op ok 2 ts nv (.returned (.tuple #[])) (((w2.setCell ⟨C.P,2,none⟩ (.int .i64 2)).setCell ⟨C.P,3,none⟩ (.string ts)).setCell ⟨C.P,4,none⟩ (.int .i64 nv))):=.inl ⟨Jc.out.2 Jd,rfl,h3,((Jb.tcs.trans t1).trans t2).trans t3⟩;clear h1 h2 h3 t1 t2 t3 Ja Jf Jc Jb;go_wp2_with fail;exact bodyPost_end (v:=.tuple #[]) (by simp[results,results90,go_sem]) rfl HF
    ·have g1:(cc == 48)=false:=by rw[Je];simp[h4]
     clear Je;have c2:=(Ja.box 2 _ rfl).1;have f2:=(Ja.box 2 _ rfl).2;have c3:=(Ja.box 3 _ rfl).1;have f3:=(Ja.box 3 _ rfl).2;have c4:=(Ja.box 4 _ rfl).1;have f4:=(Ja.box 4 _ rfl).2;obtain⟨h1,t1⟩:=Ja.put hC (kd':=2) 2 (.int .i64 2) rfl;obtain⟨h2,t2⟩:=h1.put hC (tt':=ts) 3 (.string ts) rfl;obtain⟨h3,t3⟩:=h2.put hC (vl':=nv) 4 (.int .i64 nv) rfl;have HF:Hid (qd C w Jg pl m op ok 2 ts nv (.returned (.tuple #[])) (((w2.setCell ⟨C.P,2,none⟩ (.int .i64 2)).setCell ⟨C.P,3,none⟩ (.string ts)).setCell ⟨C.P,4,none⟩ (.int .i64 nv))):=.inl ⟨Jc.out.2 Jd,rfl,h3,((Jb.tcs.trans t1).trans t2).trans t3⟩;clear h1 h2 h3 t1 t2 t3 Ja Jf Jc Jb;go_wp2_with fail;exact bodyPost_end (v:=.tuple #[]) (by simp[results,results90,go_sem]) rfl HF
 ·go_enter func90,ntmps90;go_wp2_with fail;refine Jy.out.mono ?_;rintro e w9 ⟨rfl,hw⟩;rw[hw];clear hw;obtain⟨HP,Jq⟩:=h2 (Js.out w r_ hn) hn;clear hn Jt Js Je;go_wp2_with fail;refine HP.out.mono ?_;rintro e w2 ⟨x1,y1,z1,rfl,Jb⟩;have Ja:=HR.out.below hC Jb;have Jf:=Jb;have HF:Hid (qd C w Jg pl m op ok 2 ts nv (a8 (2,pl)) w2):=.inr ⟨λe=>Jc.out.1 e (.inr (.inl (by have:=Jq.out;omega))),rfl,Jb⟩;have Jj:=ah (dW Ja 2);clear Ja Jf Jc Jb;go_wp2_with fail;refine Jj.out.mono ?_;rintro e w9 ⟨rfl,hw⟩;rw[hw];clear hw;unfold a8 at*;go_wp2_with fail;exact⟨rfl,HF⟩
section
variable{p b i:Nat}{w w':World}{C:RC}{pos kd vl op:Int}{tt:ByteArray}{m:TV}{c:UInt8}{q:List UInt8}
theorem sQ{ln:Nat}(hp:p<=20000)(hl:ln<=20000):IntKind.i64.wrap ((p:Int)+(ln:Int))=(p:Int)+(ln:Int):=by rw[IntKind.wrap_i64];omega
theorem sR{l:List UInt8}(h:ia w b l)(e c:Nat)(hc:l.length<=c):lX w b (if c=e then 0 else e) (l.drop e):=λj hj=>by
 rw[List.length_drop]at hj;rw[if_neg o_,List.getElem_drop];exact h (e+j) o_
theorem jz.drewN{pl:Int}(hC:uV C)(h:jz C w pos kd tt vl pl m op)(n:Nat):jz C (w.drewN n) pos kd tt vl pl m op:=h.below hC ⟨rfl,rfl,rfl,n_,λ_ _=>rfl⟩
theorem Aw(hC:uV C)(hi:i<=C.K)(Jc:0<=op/\op<=30)(h5:(ai C.l i).kind≠5)(hk:kd=dF (ai C.l i))(Ja:pos=(cw C.l (i+1):Int))(ht:dF (ai C.l i)=1∨dF (ai C.l i)=3->tt=(ai C.l i).text)(hv:(ai C.l i).kind=2->vl=(ai C.l i).num)
  (hR:jz C w' pos kd tt vl ((ai C.l i).pl:Int) m op) (t:am (λk=>k=C.P) w w'):∀z:PS,z.i=i->z.er=0->z.op=op->eV C m w z (.tuple #[]) (.returned (.tuple #[])) w':=by
 rintro z rfl h0 rfl;have Jb:¬iV (ai C.l) z:=by
  rintro(h|h)
  ·exact h h0
  ·exact h5 h
 rw[hk,Ja]at hR;exact .inl ⟨Jb,rfl,⟨hC,Jb,hi,Jc,tt,vl,hR,ht,hv⟩,t⟩
theorem Db(h5:(ai C.l i).kind=5)(hb:Kp C w w'):∀z:PS,z.i=i->z.er=0->z.op=op->eV C m w z (.tuple #[]) (a8 (2,((ai C.l i).pl:Int))) w':=by
 rintro z rfl h0 rfl;refine .inr ⟨.inr h5,?_,hb⟩;unfold kQ;rw[if_pos h0]
theorem Ax(hf:cG c=true):bZ (c::q) p=if 20<((c::q).takeWhile cJ).length then(⟨5,tx [],0,p⟩,0)else(⟨1,tx ((c::q).takeWhile cJ),0,p⟩,((c::q).takeWhile cJ).length):=by
 unfold bZ;simp only[hf,if_true]
theorem Dc(hf:cG c=false)(hg:aO c=true):bZ (c::q) p=if (c=48/\1<((c::q).takeWhile aO).length)∨2147483647<numL ((c::q).takeWhile aO)∨(((c::q).drop ((c::q).takeWhile aO).length).head?.map cG).getD false=true then(⟨5,tx [],0,p⟩,0)else(⟨2,tx [],(numL ((c::q).takeWhile aO):Int),p⟩,((c::q).takeWhile aO).length):=by
 unfold bZ;simp only[hf,hg,if_true,Bool.false_eq_true,if_false]
theorem Dd(hf:cG c=false)(hg:aO c=false):bZ (c::q) p=if bD (c::q)=[]then(⟨5,tx [],0,p⟩,0)else(⟨3,tx (bD (c::q)),0,p⟩,(bD (c::q)).length):=by
 unfold bZ;simp only[hf,hg,Bool.false_eq_true,if_false]
theorem Ba{α:Type}(f:α->Bool)(r:List α):r.take (r.takeWhile f).length=r.takeWhile f:=by
 have hd:=ib f r;have e:=kV f r (r.takeWhile f).length hd (λk hk hkd=>rR f _ k hkd hk) (λhk=>rQ f _ hk);exact e.symm
theorem yD:gW C:=by
 intro w i kd tt vl pl m op hC h hi Yf;have Xs:cw C.l i<=C.l.length:=iE C.l i;obtain⟨e,he⟩:=q_ (cw C.l i);have Jm:ai C.l i=(bZ (C.l.drop (e+fL (C.l.drop e))) (e+fL (C.l.drop e))).1:=by rw[he];rfl
 have Jq:cw C.l (i+1)=e+fL (C.l.drop e)+(bZ (C.l.drop (e+fL (C.l.drop e))) (e+fL (C.l.drop e))).2:=by rw[he];rfl
 rw[<-he]at h Xs;have Yn:fL (C.l.drop e)<=C.l.length-e:=by have:=kw (C.l.drop e);rwa[List.length_drop]at this
 have Yz:=hC.len;have Xa:=hC.cap;have Yx:=λW (hW:ia W C.bX C.l)=>ui C.bX (if C.cX=e then 0 else e) (C.cX-e) (C.l.drop e) W (by rw[List.length_drop];omega) (sR hW e C.cX Xa);have Xo:Hid (∀W,ia W C.bX C.l->Calls prog 84 #[.slice (some ⟨C.bX,if C.cX=e then 0 else e,none⟩) (C.l.length-e) (C.cX-e),.func (.func 85) #[] #[]] W λee w'=>ee=.returned (.int .i64 (fL (C.l.drop e):Int))/\w'=W):=λW hW=>by
  have h:=Yx W hW;rw[List.length_drop]at h;exact h
 have Xe:=lu C.bX C.l.length C.cX e Xs Xa;obtain⟨bl,Xi⟩:=q_ (fL (C.l.drop e));rw[<-Xi]at Jm Jq Yn Xo;obtain⟨p,Xq⟩:=q_ (e+bl);rw[<-Xq]at Jm Jq;have Xn:p<=20000:=o_;have Yt:p<=C.l.length:=o_;have Xh:=lu C.bX C.l.length C.cX p Yt Xa;have Yc:(ai C.l i).pl=p:=by rw[Jm];exact yS _ _
 have Zb:=h.txt;have Xm:IntKind.i64.wrap ((e:Int)+(bl:Int))=(p:Int):=by rw[sQ o_ o_,Xq];omega
 obtain⟨W1,Xy⟩:=q_ w.drew;have Xx:Bl w W1:=by rw[Xy];exact r_.drew
 have Jv:=h.below hC Xx;have Yl:=ah (Xo.out W1 Jv.txt);have HS:=ah (show W1.cell? ⟨C.P,0,none⟩=some (.slice (some ⟨C.bX,0,none⟩) C.l.length C.cX)/\W1.cell? ⟨C.P,1,none⟩=some (.int .i64 (e:Int))from⟨(Jv.box 0 _ rfl).1,(Jv.box 1 _ rfl).1⟩);have c1:=(Jv.box 1 _ rfl).1;have f1:=(Jv.box 1 _ rfl).2;obtain⟨h2,t2⟩:=Jv.put hC (pos':=(p:Int)) 1 (.int .i64 (p:Int)) rfl;obtain⟨W2,Xt⟩:=q_ (W1.setCell ⟨C.P,1,none⟩ (.int .i64 (p:Int)));rw[<-Xt]at h2 t2;obtain⟨Yh,Yv⟩:=h2.put hC (kd':=0) 2 (.int .i64 0) rfl;obtain⟨Yy,Yp⟩:=Yh.put hC (tt':=⟨#[]⟩) 3 (.string ⟨#[]⟩) rfl;obtain⟨Ye,Ys⟩:=Yy.put hC (vl':=0) 4 (.int .i64 0) rfl;obtain⟨h3,Xr⟩:=Ye.put hC (pl':=(p:Int)) 5 (.int .i64 (p:Int)) rfl;obtain⟨W3,Xu⟩:=q_ ((((W2.setCell ⟨C.P,2,none⟩ (.int .i64 0)).setCell ⟨C.P,3,none⟩ (.string ⟨#[]⟩)).setCell ⟨C.P,4,none⟩ (.int .i64 0)).setCell ⟨C.P,5,none⟩ (.int .i64 (p:Int)));rw[<-Xu]at h3 Xr;have Yu:am (λk=>k=C.P) w W3:=((((Xx.tcs.trans t2).trans Yv).trans Yp).trans Ys).trans Xr;have Ym:=ah h3;have Yr:=ah Yu;have d1:=(h2.box 1 _ rfl).1;have d2:=(h2.box 2 _ rfl).1;have g2:=(h2.box 2 _ rfl).2;have d3:=(h2.box 3 _ rfl).1;have g3:=(h2.box 3 _ rfl).2;have d4:=(h2.box 4 _ rfl).1;have g4:=(h2.box 4 _ rfl).2;have d5:=(h2.box 5 _ rfl).1;have g5:=(h2.box 5 _ rfl).2;have k0:=(h3.box 0 _ rfl).1;have k1:=(h3.box 1 _ rfl).1;have Ze:=ah Xy;have Za:=ah Xt;have Zf:=ah Xu;have Yi:=ah hi;have Xc:=ah Yf;have Yk:C.B0<=w.heap.size:=by have:=h.lt;have:=hC.hi;omega
 have Yq:Hid (∀W,am (λk=>k=C.P) w W->Kp C w W):=λW ht=>jU ht (λk hk=>by rw[hk];exact⟨hC.hi,o_⟩) Yk;have Xf:=ah Jm;have Yj:=ah Jq;have Xv:=ah Yc;clear h Yx Yn Zb Xy Xx Jv h2 t2 Xt Yh Yv Yy Yp Ye Ys h3 Xr Xu Yu hi Yf Xo Jm Jq Yc he Xs Xi Xq Yk;generalize (if C.cX=e then 0 else e)=o1 at*;generalize C.l.length-e=n1 at*;generalize C.cX-e=c1' at*;go_enter func58,ntmps58;go_upto_region 0 with fail;refine aX 17 (λX=>X.cell? ⟨C.P,0,none⟩=some (.slice (some ⟨C.bX,0,none⟩) C.l.length C.cX)/\X.cell? ⟨C.P,1,none⟩=some (.int .i64 (e:Int))) k_ ?_;rw[<-Ze.out];refine tk 0 [1,2,3,14,17] HS.out ?_;refine tk 1 [2,3,14,17] HS.out ?_;refine tk 2 [3,14,17] HS.out ?_;refine tk 3 [14,17] HS.out ?_;refine tk 4 [5,6,7,12,13,14,17] HS.out ?_;refine tk 5 [6,7,12,13,14,17] HS.out ?_;refine tk 6 [7,12,13,14,17] HS.out ?_;refine tk 7 [12,13,14,17] HS.out ?_;refine tk 8 [9,10,11,12,13,14,17] HS.out ?_;refine tk 9 [10,11,12,13,14,17] HS.out ?_;refine tk 10 [11,12,13,14,17] HS.out ?_;refine tk 11 [12,13,14,17] HS.out ?_;refine tk 12 [13,14,17] HS.out ?_;refine aw (i:=13) k_ rfl (λK hK=>?_);go_simp;refine Yl.out.mono ?_;rintro ee w9 ⟨rfl,hw⟩;rw[hw];clear hw;refine hK.out _ _ (λ_=>HS) ?_;clear hK K;try simp only[Act.put,tA,tB,tC]
 refine tk 14 [17] HS.out ?_;refine tk 15 [16,17] HS.out ?_;refine tk 16 [17] HS.out ?_;clear HS Yl;refine aw (i:=17) k_ rfl (λK hK=>?_);go_simp;rw[<-Za.out];refine hK.out _ _ (λh=>absurd rfl h) ?_;clear hK K;refine aP k_ ?_ _;clear c1 f1 Xm Xe;go_upto_region 2 with fail;rw[<-Zf.out];clear d1 d2 d3 d4 d5 g2 g3 g4 g5;go_quiet (fail);have Jb:=Ym.out.drewN hC nq;have Xp:am (λk=>k=C.P) w (W3.drewN nq):=Yr.out.of_below ⟨rfl,rfl,rfl,n_,λ_ _=>rfl⟩;have Jp:=sR Jb.txt p C.cX Xa;have Yo:(C.l.drop p).length=C.l.length-p:=List.length_drop;have Ya:(C.l.drop p).length<=C.cX-p:=o_;have Zh:(C.l.drop p).length<=20000:=o_;have Zc:C.bX<(W3.drewN nq).heap.size:=by have:=Jb.lt;have:=hC.hi;have:=hC.lo;omega
 clear Ym Yr k0 k1 Xh Xa Yz Yt;generalize W3.drewN nq=w4 at*;rw[<-Yo];generalize (if C.cX=p then 0 else p)=o2 at*;generalize C.cX-p=c2 at*;have Ju:=ah (show ai C.l i=(bZ (C.l.drop p) p).1 from Xf);have Js:=ah (show cw C.l (i+1)=p+(bZ (C.l.drop p) p).2 from Yj);generalize C.l.drop p=r at*;clear Xf Yj Yo;have Jr:=ah λW' kd tt vl pos (h5:(ai C.l i).kind≠5) (hk:kd=dF (ai C.l i)) (hp:pos=(cw C.l (i+1):Int)) (ht:(dF (ai C.l i)=1∨dF (ai C.l i)=3->tt=(ai C.l i).text)) (hv:((ai C.l i).kind=2->vl=(ai C.l i).num)) (hR:jz C W' pos kd tt vl (p:Int) m op) (t:am (λk=>k=C.P) w W')=>Aw hC Yi.out Xc.out h5 hk hp ht hv (by rw[Xv.out];exact hR) t;have Jw:Hid ((ai C.l i).kind=5->∀W',Bl w4 W'->∀z:PS,z.i=i->z.er=0->z.op=op->eV C m w z (.tuple #[]) (a8 (2,(p:Int))) W'):=λh5 W' hb=>by
  have h:=Db (op:=op) (m:=m) h5 ((Yq.out _ Xp).trans (Kp.of hb));rw[Xv.out]at h;exact h
 have Jt:=ah Xp;clear Yi Xc Xv Yq Xp;cases r with
 | nil=>
  have hk:ai C.l i=⟨4,tx [],0,p⟩:=Ju.out;have HF:=ah (Jr.out w4 0 ⟨#[]⟩ 0 (p:Int) (by rw[hk];show(4:Int)≠5;decide) (by rw[hk];rfl) (by rw[Js.out];rfl) (by rw[hk];intro h;simp[dF]at h) (by rw[hk];intro h;simp at h) Jb Jt);clear hk Jb Jp Ju Js Jr Jw Jt;go_wp2_with fail;exact bodyPost_ret (v:=.tuple #[]) (by simp[results,results58,go_sem]) rfl HF
 | cons c q=>
  have Zg:w4.cell? ⟨C.bX,o2,none⟩=some (.int .u8 (cI c)):=Jp 0 i_;have Zd:(0:Int)<(((c::q).length:Nat):Int):=by rw[l_c];omega
  have Zi:((((c::q).length:Nat):Int) == 0)=false:=by simp only[beq_eq_false_iff_ne];omega
  cases hf:cG c with
  | true=>
   have Jy:smallB (cI c)=true:=hf;obtain⟨ln,Jg⟩:=q_ (((c::q).takeWhile cJ).length);have Xk:ln<=(c::q).length:=by rw[Jg];exact ib _ _
   have Yd:=ah (qC C.bX o2 c2 (c::q) w4 i_ o_ hf Jp);have Xe:=lS C.bX o2 (c::q).length c2 ln Xk Ya;have Yw:=pT Jp c2 ln Xk;rw[Jg,Ba]at Yw;rw[<-Jg]at Yd Yw;obtain⟨ok,Jh⟩:∃ok:Prop,ok↔ln<=20:=⟨_,Iff.rfl⟩;obtain⟨kx,Xz⟩:∃kx:Int,kx=if dZ (tx ((c::q).takeWhile cJ))=true then 3 else 1:=⟨_,rfl⟩;have Yg:(tx ((c::q).takeWhile cJ)).size=ln:=by rw[tx_size,Jg]
   have Xd:=ah (C8 hC Jb ((c::q).takeWhile cJ) o_ ok (by rw[Jh,Jg]) kx Xz);have Ja:=Ju.out;have Ji:=Js.out;rw[Ax hf,<-Jg]at Ja Ji;have Jc:Hid (ok->∀W',jz C W' ((p:Int)+(ln:Int)) (kx) (tx ((c::q).takeWhile cJ)) (0) (p:Int) m op->am (λk=>k=C.P) w W'->∀z:PS,z.i=i->z.er=0->z.op=op->eV C m w z (.tuple #[]) (.returned (.tuple #[])) W'):=λh W' hR t=>by
    have X_:¬20<ln:=by have:=Jh.1 h;omega
    rw[if_neg X_]at Ja Ji;have Y_:kx=dF (ai C.l i):=by rw[Ja,Xz];rfl
    exact Jr.out W' kx _ 0 _ (by rw[Ja];show(1:Int)≠5;decide) Y_ (by rw[Ji];push_cast;rfl) (λ_=>by rw[Ja]) (λh=>by rw[Ja]at h;cases h) hR t
   have Je:Hid (¬ok->∀W',Bl w4 W'->∀z:PS,z.i=i->z.er=0->z.op=op->eV C m w z (.tuple #[]) (a8 (2,(p:Int))) W'):=λh W' hb=>by
    have X_:20<ln:=by
     by_cases e:ln<=20
     ·exact absurd (Jh.2 e) h
     ·omega
    rw[if_pos X_]at Ja;exact Jw.out (by rw[Ja]) W' hb
   have Jf:=Jt.out;have Jk:ln<=20000:=o_;clear Jr Jw Ju Js Ja Ji Jh Xz Jg hf Jt Jb Jp;generalize tx ((c::q).takeWhile cJ)=ts at*;generalize hrr:c::q=r at*;generalize cI c=cc at*;clear hrr;go_wp2_with(go_at_call 86;refine(cQ _ _).mono ?_;rintro e w' ⟨rfl,rfl⟩;rw[Jy]);refine Yd.out.mono ?_;rintro ee w9 ⟨rfl,hw⟩;rw[hw];clear hw;go_wp2_with fail;refine(Xd).mono (λe w5 hg=>?_);rcases hg.symm with⟨Jz,rfl,Jx⟩|⟨Jo,rfl,Jb,t4⟩
   ·have HF:=ah (Je.out Jz _ Jx);unfold a8 at*;go_wp2_with fail;exact⟨rfl,HF⟩
   replace t4:=Jf.trans t4
   clear Jf;have Jj:=ah (Jc.out Jo);clear Jc Je;have Xb:=(Jb.box 1 _ rfl).1;have Xj:=(Jb.box 1 _ rfl).2;have J_:=(Jb.box 3 _ rfl).1;obtain⟨W5,Jn⟩:=q_ w5.drew;have Jl:Bl w5 W5:=by rw[Jn];exact r_.drew
   have Jd:=Jb.below hC Jl;have Xm:IntKind.i64.wrap ((p:Int)+(ln:Int))=(p:Int)+(ln:Int):=sQ Xn (Jk);have HS:=ah (show W5.cell? ⟨C.P,1,none⟩=some (.int .i64 (p:Int))/\W5.cell? ⟨C.P,3,none⟩=some (.string ts)from⟨(Jd.box 1 _ rfl).1,(Jd.box 3 _ rfl).1⟩);have q1:=(Jd.box 1 _ rfl).1;have q2:=(Jd.box 1 _ rfl).2;obtain⟨h6,t6⟩:=Jd.put hC (pos':=(p:Int)+(ln:Int)) 1 (.int .i64 ((p:Int)+(ln:Int))) rfl;have HF:=ah (Jj.out _ h6 (t4.trans (Jl.tcs.trans t6)));have Xg:=ah Jn;clear Jb Jd h6 t6 Jl Jn t4 Xb Xj J_;go_upto_region 9 with fail;refine aX 13 (λX=>X.cell? ⟨C.P,1,none⟩=some (.int .i64 (p:Int))/\X.cell? ⟨C.P,3,none⟩=some (.string ts)) k_ ?_;rw[<-Xg.out];refine tk 0 [1,2,3,10,13] HS.out ?_;refine tk 1 [2,3,10,13] HS.out ?_;refine tk 2 [3,10,13] HS.out ?_;refine tk 3 [10,13] HS.out ?_;refine tk 4 [5,6,7,8,9,10,13] HS.out ?_;refine tk 5 [6,7,8,9,10,13] HS.out ?_;refine tk 6 [7,8,9,10,13] HS.out ?_;refine tk 7 [8,9,10,13] HS.out ?_;refine tk 8 [9,10,13] HS.out ?_;refine tk 9 [10,13] HS.out ?_;refine tk 10 [13] HS.out ?_;refine tk 11 [12,13] HS.out ?_;refine tk 12 [13] HS.out ?_;clear HS;refine aw (i:=13) k_ rfl (λK hK=>?_);go_simp;refine hK.out _ _ (λh=>absurd rfl h) ?_;clear hK K;refine aP k_ ?_ _;go_wp2_with fail;exact bodyPost_end (v:=.tuple #[]) (by simp[results,results58,go_sem]) rfl HF
  | false=>
   cases hg:aO c with
   | true=>
    have Jy:smallB (cI c)=false:=hf;have Yb:digitB (cI c)=true:=hg;obtain⟨ln,Jg⟩:=q_ (((c::q).takeWhile aO).length);have Xk:ln<=(c::q).length:=by rw[Jg];exact ib _ _
    obtain⟨ok,Jh⟩:∃ok:Prop,ok ↔ ¬ru (c::q) c ((c::q).takeWhile aO).length:=⟨_,Iff.rfl⟩;have Yg:(tx ((c::q).takeWhile aO)).size=ln:=by rw[tx_size,Jg]
    have Xd:=ah (Da hC Jb C.bX o2 c2 Zc c q o_ Ya Jp hg ok Jh);have Ja:=Ju.out;have Ji:=Js.out;rw[Dc hf hg]at Ja Ji;have Xw:ru (c::q) c ((c::q).takeWhile aO).length↔((c=48/\1<((c::q).takeWhile aO).length)∨2147483647<numL ((c::q).takeWhile aO)∨(((c::q).drop ((c::q).takeWhile aO).length).head?.map cG).getD false=true):=by
     unfold ru;rw[Ba]
    have Jc:Hid (ok->∀W',jz C W' ((p:Int)+(ln:Int)) (2) (tx ((c::q).takeWhile aO)) ((numL ((c::q).takeWhile aO):Int)) (p:Int) m op->am (λk=>k=C.P) w W'->∀z:PS,z.i=i->z.er=0->z.op=op->eV C m w z (.tuple #[]) (.returned (.tuple #[])) W'):=λh W' hR t=>by
     have hb:=Jh.1 h;rw[Xw]at hb;rw[if_neg hb]at Ja Ji;exact Jr.out W' 2 _ _ _ (by rw[Ja];show(2:Int)≠5;decide) (by rw[Ja];rfl) (by rw[Ji,Jg];push_cast;rfl) (λh=>by rw[Ja]at h;simp[dF]at h) (λ_=>by rw[Ja]) hR t
    have Je:Hid (¬ok->∀W',Bl w4 W'->∀z:PS,z.i=i->z.er=0->z.op=op->eV C m w z (.tuple #[]) (a8 (2,(p:Int))) W'):=λh W' hb=>by
     have Xl:ru (c::q) c ((c::q).takeWhile aO).length:=by
      by_cases e:ru (c::q) c ((c::q).takeWhile aO).length
      ·exact e
      ·exact absurd (Jh.2 e) h
     rw[Xw]at Xl;rw[if_pos Xl]at Ja;exact Jw.out (by rw[Ja]) W' hb
    have Jf:=Jt.out;have Jk:ln<=20000:=o_;clear Jr Jw Ju Js Ja Ji Jh Jg hf Jt Jb Jp Xw hg;generalize tx ((c::q).takeWhile aO)=ts at*;generalize (numL ((c::q).takeWhile aO):Int)=nv at*;generalize hrr:c::q=r at*;generalize cI c=cc at*;clear hrr;go_wp2_with(first|(go_at_call 86;refine(cQ _ _).mono ?_;rintro e w' ⟨rfl,rfl⟩;rw[Jy])|(go_at_call 89;refine(gu _ _).mono ?_;rintro e w' ⟨rfl,rfl⟩;rw[Yb]));refine(Xd).mono (λe w5 hg=>?_);rcases hg.symm with⟨Jz,rfl,Jx⟩|⟨Jo,rfl,Jb,t4⟩
    ·have HF:=ah (Je.out Jz _ Jx);unfold a8 at*;go_wp2_with fail;exact⟨rfl,HF⟩
    replace t4:=Jf.trans t4
    clear Jf;have Jj:=ah (Jc.out Jo);clear Jc Je;have Xb:=(Jb.box 1 _ rfl).1;have Xj:=(Jb.box 1 _ rfl).2;have J_:=(Jb.box 3 _ rfl).1;obtain⟨W5,Jn⟩:=q_ w5.drew;have Jl:Bl w5 W5:=by rw[Jn];exact r_.drew
    have Jd:=Jb.below hC Jl;have Xm:IntKind.i64.wrap ((p:Int)+(ln:Int))=(p:Int)+(ln:Int):=sQ Xn (Jk);have HS:=ah (show W5.cell? ⟨C.P,1,none⟩=some (.int .i64 (p:Int))/\W5.cell? ⟨C.P,3,none⟩=some (.string ts)from⟨(Jd.box 1 _ rfl).1,(Jd.box 3 _ rfl).1⟩);have q1:=(Jd.box 1 _ rfl).1;have q2:=(Jd.box 1 _ rfl).2;obtain⟨h6,t6⟩:=Jd.put hC (pos':=(p:Int)+(ln:Int)) 1 (.int .i64 ((p:Int)+(ln:Int))) rfl;have HF:=ah (Jj.out _ h6 (t4.trans (Jl.tcs.trans t6)));have Xg:=ah Jn;clear Jb Jd h6 t6 Jl Jn t4 Xb Xj J_;go_upto_region 9 with fail;refine aX 13 (λX=>X.cell? ⟨C.P,1,none⟩=some (.int .i64 (p:Int))/\X.cell? ⟨C.P,3,none⟩=some (.string ts)) k_ ?_;rw[<-Xg.out];refine tk 0 [1,2,3,10,13] HS.out ?_;refine tk 1 [2,3,10,13] HS.out ?_;refine tk 2 [3,10,13] HS.out ?_;refine tk 3 [10,13] HS.out ?_;refine tk 4 [5,6,7,8,9,10,13] HS.out ?_;refine tk 5 [6,7,8,9,10,13] HS.out ?_;refine tk 6 [7,8,9,10,13] HS.out ?_;refine tk 7 [8,9,10,13] HS.out ?_;refine tk 8 [9,10,13] HS.out ?_;refine tk 9 [10,13] HS.out ?_;refine tk 10 [13] HS.out ?_;refine tk 11 [12,13] HS.out ?_;refine tk 12 [13] HS.out ?_;clear HS;refine aw (i:=13) k_ rfl (λK hK=>?_);go_simp;refine hK.out _ _ (λh=>absurd rfl h) ?_;clear hK K;refine aP k_ ?_ _;go_wp2_with fail;exact bodyPost_end (v:=.tuple #[]) (by simp[results,results58,go_sem]) rfl HF
   | false=>
    have Jy:smallB (cI c)=false:=hf;have Yb:digitB (cI c)=false:=hg;obtain⟨ln,Jg⟩:=q_ ((bD (c::q)).length);have Xk:ln<=2:=by rw[Jg];exact(jr _).2
    obtain⟨ok,Jh⟩:∃ok:Prop,ok↔bD (c::q)≠[]:=⟨_,Iff.rfl⟩;have Yg:(tx (bD (c::q))).size=ln:=by rw[tx_size,Jg]
    have Xd:=ah (C9 hC Jb C.bX o2 c2 (c::q) i_ o_ Ya Jp ok Jh);have Ja:=Ju.out;have Ji:=Js.out;rw[Dd hf hg]at Ja Ji;have Jc:Hid (ok->∀W',jz C W' ((p:Int)+(ln:Int)) (3) (tx (bD (c::q))) (0) (p:Int) m op->am (λk=>k=C.P) w W'->∀z:PS,z.i=i->z.er=0->z.op=op->eV C m w z (.tuple #[]) (.returned (.tuple #[])) W'):=λh W' hR t=>by
     rw[if_neg (Jh.1 h)]at Ja Ji;exact Jr.out W' 3 _ _ _ (by rw[Ja];show(3:Int)≠5;decide) (by rw[Ja];rfl) (by rw[Ji,Jg];push_cast;rfl) (λ_=>by rw[Ja]) (λh=>by rw[Ja]at h;cases h) hR t
    have Je:Hid (¬ok->∀W',Bl w4 W'->∀z:PS,z.i=i->z.er=0->z.op=op->eV C m w z (.tuple #[]) (a8 (2,(p:Int))) W'):=λh W' hb=>by
     have Xl:bD (c::q)=[]:=by
      by_cases e:bD (c::q)=[]
      ·exact e
      ·exact absurd (Jh.2 e) h
     rw[if_pos Xl]at Ja;exact Jw.out (by rw[Ja]) W' hb
    have Jf:=Jt.out;have Jk:ln<=20000:=o_;clear Jr Jw Ju Js Ja Ji Jh Jg hf Jt Jb Jp hg;generalize tx (bD (c::q))=ts at*;generalize hrr:c::q=r at*;generalize cI c=cc at*;clear hrr;go_wp2_with(first|(go_at_call 86;refine(cQ _ _).mono ?_;rintro e w' ⟨rfl,rfl⟩;rw[Jy])|(go_at_call 89;refine(gu _ _).mono ?_;rintro e w' ⟨rfl,rfl⟩;rw[Yb]));refine(Xd).mono (λe w5 hg=>?_);rcases hg.symm with⟨Jz,rfl,Jx⟩|⟨Jo,rfl,Jb,t4⟩
    ·have HF:=ah (Je.out Jz _ Jx);unfold a8 at*;go_wp2_with fail;exact⟨rfl,HF⟩
    replace t4:=Jf.trans t4
    clear Jf;have Jj:=ah (Jc.out Jo);clear Jc Je;have Xb:=(Jb.box 1 _ rfl).1;have Xj:=(Jb.box 1 _ rfl).2;have J_:=(Jb.box 3 _ rfl).1;obtain⟨W5,Jn⟩:=q_ w5.drew;have Jl:Bl w5 W5:=by rw[Jn];exact r_.drew
    have Jd:=Jb.below hC Jl;have Xm:IntKind.i64.wrap ((p:Int)+(ln:Int))=(p:Int)+(ln:Int):=sQ Xn (Jk);have HS:=ah (show W5.cell? ⟨C.P,1,none⟩=some (.int .i64 (p:Int))/\W5.cell? ⟨C.P,3,none⟩=some (.string ts)from⟨(Jd.box 1 _ rfl).1,(Jd.box 3 _ rfl).1⟩);have q1:=(Jd.box 1 _ rfl).1;have q2:=(Jd.box 1 _ rfl).2;obtain⟨h6,t6⟩:=Jd.put hC (pos':=(p:Int)+(ln:Int)) 1 (.int .i64 ((p:Int)+(ln:Int))) rfl;have HF:=ah (Jj.out _ h6 (t4.trans (Jl.tcs.trans t6)));have Xg:=ah Jn;clear Jb Jd h6 t6 Jl Jn t4 Xb Xj J_;go_upto_region 9 with fail;refine aX 13 (λX=>X.cell? ⟨C.P,1,none⟩=some (.int .i64 (p:Int))/\X.cell? ⟨C.P,3,none⟩=some (.string ts)) k_ ?_;rw[<-Xg.out];refine tk 0 [1,2,3,10,13] HS.out ?_;refine tk 1 [2,3,10,13] HS.out ?_;refine tk 2 [3,10,13] HS.out ?_;refine tk 3 [10,13] HS.out ?_;refine tk 4 [5,6,7,8,9,10,13] HS.out ?_;refine tk 5 [6,7,8,9,10,13] HS.out ?_;refine tk 6 [7,8,9,10,13] HS.out ?_;refine tk 7 [8,9,10,13] HS.out ?_;refine tk 8 [9,10,13] HS.out ?_;refine tk 9 [10,13] HS.out ?_;refine tk 10 [13] HS.out ?_;refine tk 11 [12,13] HS.out ?_;refine tk 12 [13] HS.out ?_;clear HS;refine aw (i:=13) k_ rfl (λK hK=>?_);go_simp;refine hK.out _ _ (λh=>absurd rfl h) ?_;clear hK K;refine aP k_ ?_ _;go_wp2_with fail;exact bodyPost_end (v:=.tuple #[]) (by simp[results,results58,go_sem]) rfl HF
end
end Go.Proofs.YtlamjfhhefcohaaGreatDoor
