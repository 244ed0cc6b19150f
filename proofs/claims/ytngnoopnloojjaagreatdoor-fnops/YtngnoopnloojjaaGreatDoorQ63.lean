import Derived.Test.YtngnoopnloojjaaGreatDoorQ62
import Derived.Test.YtngnoopnloojjaaGreatDoorQ20
import Derived.Test.YtngnoopnloojjaaGreatDoorQ15
import Derived.Test.YtngnoopnloojjaaGreatDoorQ18
namespace Go.Proofs.YtngnoopnloojjaaGreatDoor
open List
open Go.Proofs.Tryz Go.RowKit
set_option linter.all false
set_option maxRecDepth 100000
set_option maxHeartbeats 0
variable[Inhabited Pick]
section
variable{r:List UInt8}
def qj(b o n cap h:Nat)(h2:h<=n)(h3:n<=cap)(w:AT):(Instr.slice 22 (.slice (some ⟨b,o,none⟩) n cap) none (some (V (h:Int))) none).run prog w=.ok (.slice (some ⟨b,o,none⟩) h cap) w:=by have H:prog.elem 22=5:=k_;have I:(sizeOf 5).run prog w=.ok 1 w:=k_;rw[run_slice_h w 22 _ n cap (by rw[H];exact underlying22) .i64 _ o_ o_,H,I];simp only[Result.andThen,sliced,Int.toNat_natCast];simp[Addr.add]
def wI{W:AT}{b o:Nat}(h:rj W b o r)(c d:Nat)(I:d<=r.length):(convert 22 9 (.slice (some ⟨b,o,none⟩) d c)).run prog W=.ok (sV (tx (r.take d))) W:=by
 have H:(r.take d).length=d:=by rw[length_take];omega
 have:=run_convert_bytes_back (P:=prog) W 22 9 5 ⟨b,o,none⟩ c (r.take d) underlying22 underlying5 underlying9 (λj hj=>by rw[getElem_take,Fp];exact h j o_)
 rw[H]at this;exact this
def uq:List UInt8:=[40,41,123,125,91,93,59,44,61,124,94,38,60,62,43,45,42,47,37,33,126]
def Fw(c:UInt8):c∈uq↔c∈qP:=by constructor;intro h;have:∀x∈uq,x∈qP:=d_;exact this c h;intro h;have:∀x∈qP,x∈uq:=d_;exact this c h
def IP{c:UInt8}{q:List UInt8}(J:r=c::q)(h2:r.take 2∉x_):(c∈qP->cR r=[c])/\(c∉qP->cR r=[]):=by
 have I:r.take 1=[c]:=by rw[J];rfl
 have H:(r.take 1∈qP.map (λc=>[c]))↔c∈qP:=by rw[I];simp
 unfold cR;rw[if_neg h2];exact⟨λh=>by rw[if_pos (H.2 h),I],λh=>by rw[if_neg (λh'=>h (H.1 h'))]⟩
def Lu(x:List UInt8):(tx x).toList=x:=by unfold tx;rw[ByteArray.toList_eq]
def IQ(c:UInt8):(cI c).toNat.toUInt8=c:=by unfold cI;simp
def Fx(h:r.take 2∈x_):2<=r.length:=by
 have H:∀x∈x_,x.length=2:=d_
 have:=H _ h
 rw[length_take]at this;omega
theorem wJ(b o cap:Nat)(r:List UInt8)(w:World)(X:0<r.length)(hl:r.length<=1000000)(Ji:r.length<=cap)(J:rj w b o r):
  Calls prog 157 #[.slice (some ⟨b,o,none⟩) r.length cap] w λe w'=>e=rW (V ((cR r).length:Int))/\w'=w:=by
 by_cases h2:r.take 2∈x_
 ·have Jg:=Fx h2;have Je:=qj b o r.length cap 2 Jg Ji;have Jf:=wI J cap 2 Jg;have Y:Hid ((cR r).length=2):=by show _=_;unfold cR;rw[if_pos h2,List.length_take];omega
  generalize cR r=sy at*;have Jc:(1:Int)<(r.length:Int):=o_;simp only[x_,List.mem_cons,List.not_mem_nil,or_false]at h2;rcases h2 with e|e|e|e|e|e|e|e;all_goals
   rw[e]at Jf;unfold tx at Jf;clear J e;go_in;go_wp2;go_ret;exact⟨by rw[Y.out];rfl,rfl⟩
 obtain⟨c,q,O⟩:∃c q,r=c::q:=by
  cases r with
  | nil=>exact absurd X i_
  | cons c q=>exact⟨c,q,rfl⟩
 have⟨s1,s2⟩:=IP O h2;have Jl:w.cell? ⟨b,o,none⟩=some (.int .u8 (cI c)):=by
  have:=J 0 X
  rw[Nat.add_zero]at this;rw[this];subst O;rfl
 have Jh:=ah (λW=>Tryz.strings_IndexByte ⟨#[40,41,123,125,91,93,59,44,61,124,94,38,60,62,43,45,42,47,37,33,126]⟩ (cI c) W);have Jb:0<=Lib.indexByte uq c↔c∈qP:=(Eu uq c).trans (Fw c);have U:=IQ c;have Ja:Hid (∀W,Calls prog 180 #[sV ⟨#[40,41,123,125,91,93,59,44,61,124,94,38,60,62,43,45,42,47,37,33,126]⟩,.int .u8 (cI c)] W λe w'=>e=rW (V (Lib.indexByte uq c))/\w'=W):=λW=>by have h:=Jh.out W;rw[U]at h;exact h
 have Jk: -1<=Lib.indexByte uq c:=Lib.indexByte_ge _ _;have I:Hid (((cR r).length:Int)=if 0<=Lib.indexByte uq c then 1 else 0):=by show _=_;by_cases hm:c∈qP;rw[if_pos (Jb.2 hm),s1 hm];rfl;rw[if_neg (λh=>hm (Jb.1 h)),s2 hm];rfl
 generalize Lib.indexByte uq c=ix at*;generalize cR r=sy at*;clear Jh s1 s2 U Jb O;have H:∀x∈x_,((tx (r.take 2)).toList == x)=false:=λx hx=>by rw[<-Lu x,str_eq,decide_eq_false];intro e;exact h2 (by rw[yb e];exact hx)
 by_cases Jc:1<r.length
 ·have Je:=qj b o r.length cap 2 Jc Ji;have Jf:=wI J cap 2 Jc;have Jd:(1:Int)<(r.length:Int):=o_
  have q1:=H [124,124] d_;have q2:=H [38,38] d_;have q3:=H [61,61] d_;have q4:=H [33,61] d_;have q5:=H [60,61] d_;have q6:=H [62,61] d_;have Z:=H [60,60] d_;have q8:=H [62,62] d_;generalize tx (r.take 2)=yy at*;generalize cI c=cc at*;clear H J h2;by_cases hm:0<=ix
  ·rw[if_pos hm]at I;go_in;go_wp2_with(go_at_call 180;refine(Ja.out _).mono ?_;rintro e w' ⟨rfl,rfl⟩)
   go_ret;exact⟨by rw[I.out];rfl,rfl⟩
  rw[if_neg hm]at I;go_in;go_wp2_with(go_at_call 180;refine(Ja.out _).mono ?_;rintro e w' ⟨rfl,rfl⟩);go_ret;exact⟨by rw[I.out];rfl,rfl⟩
 have Jd:¬(1:Int)<(r.length:Int):=o_;have Jj:(0:Int)<(r.length:Int):=o_;generalize cI c=cc at*;clear H J h2;by_cases hm:0<=ix
 ·rw[if_pos hm]at I;go_in;go_wp2_with(go_at_call 180;refine(Ja.out _).mono ?_;rintro e w' ⟨rfl,rfl⟩)
  go_ret;exact⟨by rw[I.out];rfl,rfl⟩
 rw[if_neg hm]at I;go_in;go_wp2_with(go_at_call 180;refine(Ja.out _).mono ?_;rintro e w' ⟨rfl,rfl⟩);go_ret;exact⟨by rw[I.out];rfl,rfl⟩
end
section
variable{C:RC}{w:AT}{pos pl op:Int}{m:TV}
def xQ(C:RC)(w:AT)(pos pl:Int)(m:TV)(op:Int)(ok:Prop)(kd:Int)(tt:IF)(vl:Int)(e:Ending)(w':AT):Prop:=
 (ok/\e=rW (.tuple #[])/\mt C w' pos kd tt vl pl m op/\aA (λk=>k=C.P) w w')\/(¬ok/\e=aK (2,pl)/\Bl w w')
theorem Lv(Z:Dv C)(h:mt C w pos 0 ⟨#[]⟩ 0 pl m op)(x:List UInt8)(hx:x.length<=1000000)(O:Prop)(Je:O↔x.length<=20)(H:Int)(Jb:H=if i7 (tx x)=true then 3 else 1):
  Calls prog 107 #[pV C.P,sV (tx x)] w (xQ C w pos pl m op O H (tx x) 0):=by
 have Ja:=ah Je;clear Je;have Jh:(tx x).size=x.length:=iD x;have Jf:=ah (fx h 2);by_cases h20:x.length<=20
 ·have c2:=(h.box 2 _ rfl).1;have f2:=(h.box 2 _ rfl).2;have c3:=(h.box 3 _ rfl).1;have f3:=(h.box 3 _ rfl).2;have⟨Y,U⟩:=h.put Z (kd':=1) 2 (V 1) rfl;have⟨h2,I⟩:=Y.put Z (tt':=tx x) 3 (sV (tx x)) rfl;have⟨W2,Jc⟩:=q_ ((w.setCell ⟨C.P,2,none⟩ (V 1)).setCell ⟨C.P,3,none⟩ (sV (tx x)));rw[<-Jc]at h2 I;have⟨h3,X⟩:=h2.put Z (kd':=3) 2 (V 3) rfl;have d2:=(h2.box 2 _ rfl).1;have e2:=(h2.box 2 _ rfl).2;have Jd:=ah Jc;have Ji:¬(20:Int)<(x.length:Int):=o_
  cases hr:i7 (tx x)with
  | true=>have J:Hid (xQ C w pos pl m op O H (tx x) 0 (rW (.tuple #[])) (W2.setCell ⟨C.P,2,none⟩ (V 3))):=.inl ⟨Ja.o.2 h20,rfl,by rw[Jb,hr,if_pos rfl];exact h3,(U.trans I).trans X⟩;clear h Y h2 h3 U I X Jc Jb Ja;generalize tx x=xx at*;go_in;go_upto_region 3 with fail;rw[<-Jd.o];go_wp2_with(go_at_call 153;refine(pz _ _).mono ?_;rintro e w' ⟨rfl,rfl⟩;rw[hr]);exact bodyPost_end (v:=.tuple #[]) (by simp[results,results107,go_sem]) rfl J
  | false=>have J:Hid (xQ C w pos pl m op O H (tx x) 0 (rW (.tuple #[])) W2):=.inl ⟨Ja.o.2 h20,rfl,by rw[Jb,hr,if_neg i_];exact h2,U.trans I⟩;clear h Y h2 h3 U I X Jc Jb Ja;generalize tx x=xx at*;go_in;go_upto_region 3 with fail;rw[<-Jd.o];go_wp2_with(go_at_call 153;refine(pz _ _).mono ?_;rintro e w' ⟨rfl,rfl⟩;rw[hr]);exact bodyPost_end (v:=.tuple #[]) (by simp[results,results107,go_sem]) rfl J
 have Jg:(20:Int)<(x.length:Int):=o_;have J:Hid (∀H tt vl,xQ C w pos pl m op O H tt vl (aK (2,pl)) w):=λ_ _ _=>.inr ⟨λe=>h20 (Ja.o.1 e),rfl,r_⟩;clear h Jb Ja;generalize tx x=xx at*;go_in;go_wp2_with fail;refine Jf.o.mono ?_;rintro e w9 ⟨rfl,hw⟩;rw[hw];clear hw;unfold aK at*;go_wp2_with fail;exact⟨rfl,J.o _ _ _⟩
def Lw(hC:Dv C)(h:mt C w pos 0 ⟨#[]⟩ 0 pl m op)(b o cap:Nat)(r:List UInt8)(h0:0<r.length)(hl:r.length<=1000000)(Jg:r.length<=cap)(J:rj w b o r)(I:Prop)(Jf:I↔cR r≠[]):
  Calls prog 111 #[pV C.P,.slice (some ⟨b,o,none⟩) r.length cap] w (xQ C w pos pl m op I 3 (tx (cR r)) 0):=by
 have Ja:=ah Jf;clear Jf;have U:=ah (wJ b o cap r w h0 hl Jg J);have Jh:=ah (fx h 2);have Jb:=(pk r).1;have Jc:r.take (cR r).length=cR r:=by unfold cR;split;rw[length_take];by_cases h2:2<=r.length;rw[Nat.min_eq_left h2];rw[Nat.min_eq_right o_,take_of_length_le n_,take_of_length_le o_];split;rw[length_take];by_cases h2:1<=r.length;rw[Nat.min_eq_left h2];rw[Nat.min_eq_right o_,take_of_length_le n_,take_of_length_le o_];rfl
 have Jd:=qj b o r.length cap (cR r).length Jb Jg;have Je:=wI J cap (cR r).length Jb;rw[Jc]at Je;by_cases hs:cR r=[]
 ·have O:Hid (∀kd tt vl,xQ C w pos pl m op I kd tt vl (aK (2,pl)) w):=λ_ _ _=>.inr ⟨λe=>Ja.o.1 e hs,rfl,r_⟩;have Z:(cR r).length=0:=by rw[hs];rfl
  rw[Z]at U;clear h J Jd Je Jc Jb hs Z Ja;generalize cR r=sy at*;go_in;go_wp2_with fail;refine U.o.mono ?_;rintro e w9 ⟨rfl,H⟩;rw[H];clear H;go_wp2_with fail;refine Jh.o.mono ?_;rintro e w9 ⟨rfl,H⟩;rw[H];clear H;unfold aK at*;go_wp2_with fail;exact⟨rfl,O.o _ _ _⟩
 have c2:=(h.box 2 _ rfl).1;have f2:=(h.box 2 _ rfl).2;have c3:=(h.box 3 _ rfl).1;have f3:=(h.box 3 _ rfl).2;have⟨Y,t1⟩:=h.put hC (kd':=3) 2 (V 3) rfl;have⟨h2,X⟩:=Y.put hC (tt':=tx (cR r)) 3 (sV (tx (cR r))) rfl;have O:Hid (xQ C w pos pl m op I 3 (tx (cR r)) 0 (rW (.tuple #[])) ((w.setCell ⟨C.P,2,none⟩ (V 3)).setCell ⟨C.P,3,none⟩ (sV (tx (cR r))))):=.inl ⟨Ja.o.2 hs,rfl,h2,t1.trans X⟩;have Ji:(((cR r).length:Int) == 0)=false:=by
  have:(cR r).length≠0:=λe=>hs (K1 e)
  simp only[beq_eq_false_iff_ne];omega
 clear h Y h2 t1 X J Jb hs Jc Ja;generalize tx (cR r)=ts at*;generalize hln:(cR r).length=ln at*;clear hln;go_in;go_wp2_with fail;refine U.o.mono ?_;rintro e w9 ⟨rfl,H⟩;rw[H];clear H;go_wp2_with fail;exact bodyPost_end (v:=.tuple #[]) (by simp[results,results111,go_sem]) rfl O
end
def IR(c:UInt8)(q:List UInt8)(W:AT):(Instr.index 9 (sV (tx (c::q))) (V 0)).run prog W=.ok (.int .u8 (cI c)) W:=by
 have h:0<(tx (c::q)).size:=by rw[iD];simp
 simp[go_sem,h];unfold cI tx;rfl
def zr(r:List UInt8)(c:UInt8)(d:Nat):Prop:=(c=48/\1<d)\/2147483647<numL (r.take d)\/((r.drop d).head?.map jt).getD false=true
def Qx(c:UInt8):(cI c == 48)=decide (c=48):=by unfold cI;apply Bool.eq_iff_iff.2;simp only[beq_iff_eq,K0];constructor;intro h;apply UInt8.toNat_inj.1;show c.toNat=48;omega;rintro rfl;rfl
theorem Lx{C:RC}{w:AT}{Jg pl:Int}{m:TV}{op:Int}(J:Dv C)(h:mt C w Jg 0 ⟨#[]⟩ 0 pl m op)(b o cap:Nat)(hb:b<w.heap.size)(c:UInt8)(q:List UInt8)(hl:(c::q).length<=1000000)(Xe:(c::q).length<=cap)(hc:rj w b o (c::q))(Jw:a8 c=true)(Z:Prop)(Jz:Z ↔ ¬zr (c::q) c ((c::q).takeWhile a8).length):
  Calls prog 110 #[pV C.P,.slice (some ⟨b,o,none⟩) (c::q).length cap] w (xQ C w Jg pl m op Z 2 (tx ((c::q).takeWhile a8)) (numL ((c::q).takeWhile a8):Int)):=by
 have Jy:=ah (CL b o cap (c::q) w hl hc);have Xh:1<=((c::q).takeWhile a8).length:=x9 a8 c q Jw;have Jp:((c::q).takeWhile a8).length<=(c::q).length:=jY a8 _;have Jr:(c::q).take ((c::q).takeWhile a8).length=(c::q).takeWhile a8:=by rw[rO a8 (c::q) ((c::q).takeWhile a8).length Jp (λk hk hkd=>DZ a8 _ k hkd hk) (λhk=>DY a8 _ hk),length_take,Nat.min_eq_left Jp]
 have Jo:∀x∈(c::q).takeWhile a8,a8 x=true:=λx hx=>by
  have:=all_takeWhile (p:=a8) (l:=c::q)
  rw[all_eq_true]at this;exact this x hx
 have Xc:=qj b o (c::q).length cap _ Jp Xe;have Xd:=wI hc cap _ Jp;rw[Jr]at Xd;obtain⟨q',Js⟩:∃q',(c::q).takeWhile a8=c::q':=by rw[takeWhile_cons,if_pos Jw];exact⟨_,rfl⟩
 have J_:=λW=>IR c q' W;rw[<-Js]at J_;have⟨p1,p2⟩:=O9 (l:=(c::q).takeWhile a8) (by rw[Js];simp) Jo;have Jt:(tx ((c::q).takeWhile a8)).data.toList=(c::q).takeWhile a8:=by unfold tx;simp
 have Jc:=ah Jz;unfold zr at Jc;rw[Jr]at Jc;have Xg:(tx ((c::q).takeWhile a8)).size<=1000000:=by rw[iD];omega
 have⟨ev,Jk,Jl⟩:=h.er;have Ju:Hid (∀W,Bl w W->numL ((c::q).takeWhile a8)<=2147483647->Calls prog 156 #[sV (tx ((c::q).takeWhile a8)),V 10,V 32] W λe w'=>e=rW (.tuple #[V (numL ((c::q).takeWhile a8):Int),.nilIface])/\Bl W w'):=λW hW hn=>by refine(Tryz.strconv_ParseInt_10_at32_ok _ o_ _ (by rw[Jt];exact p1 hn) W).mono ?_;rintro e w' ⟨rfl,rfl|⟨t,rfl⟩⟩;exact⟨rfl,r_⟩;exact⟨rfl,bytesWorld_below W 5 t⟩
 have Jx:=b_ Jk;have Jv:Hid (∀W,Bl w W->¬numL ((c::q).takeWhile a8)<=2147483647->Calls prog 156 #[sV (tx ((c::q).takeWhile a8)),V 10,V 32] W λe w'=>∃x y z,e=rW (.tuple #[V x,.iface y z])/\Bl W w'):=λW hW hn=>by refine(Tryz.strconv_ParseInt_10_at32_range _ o_ (by rw[Jt];exact p2 hn) ev W ((hW.cell (p:=⟨5,0,none⟩) Jx).trans Jk) Jl).mono ?_;rintro e w' ⟨N,rfl,-,-,hB⟩;exact⟨_,_,_,rfl,hB⟩
 have HR:=ah h;have HC:=ah hc;have Je:=Qx c;have Ji:((c::q).takeWhile a8).length<(c::q).length->((c::q).drop ((c::q).takeWhile a8).length).head? =(c::q)[((c::q).takeWhile a8).length]? := λ_=>by rw[head?_drop]
 have Jh:¬((c::q).takeWhile a8).length<(c::q).length->((c::q).drop ((c::q).takeWhile a8).length).head? =none:=λhh=>by rw[head?_drop,getElem?_eq_none o_]
 have Xb:=ah Ji;have Xa:=ah Jh;clear h hc p1 p2 Jr Jo Jt Jz Jw Js Ji Jh Jk Jl Jx;generalize hds:(c::q).takeWhile a8=ds at*;clear hds;have Xf:=ah (λ(h:(numL ds:Nat)<=2147483647)=>(by omega:((numL ds:Nat):Int)<=2147483647));generalize htt:tx ds=ts at*;clear htt;generalize hnn:((numL ds:Nat):Int)=nv at*;generalize hrr:c::q=r at*;generalize hcc:cI c=cc at*;clear hrr hcc hnn;generalize hdl:ds.length=d at*;clear hdl;by_cases hn:numL ds<=2147483647
 ·go_in;go_wp2_with fail;refine Jy.o.mono ?_;rintro e w9 ⟨rfl,H⟩;rw[H];clear H;have HP:=ah (Ju.o w r_ hn);have Jq:=ah hn;clear hn Ju Jv;go_wp2_with fail;refine HP.o.mono ?_;rintro e w2 ⟨rfl,Jb⟩;have Ja:=HR.o.below J Jb;have Jf:rj w2 b o r:=λj hj=>(Jb.cell (p:=⟨b,o+j,none⟩) hb).trans (HC.o j hj);by_cases h48:c=48/\1<d
  ·have g1:(cc == 48)=true:=(by rw[Je];simp[h48.1]);have g2:(1:Int)<(d:Int):=(Ft h48.2);clear Je;have I:Hid (xQ C w Jg pl m op Z 2 ts nv (aK (2,pl)) w2):=.inr ⟨λe=>Jc.o.1 e (.inl h48),rfl,Jb⟩;have Jj:=ah (fx Ja 2);clear Ja Jf Jc Jb;go_wp2_with fail;refine Jj.o.mono ?_;rintro e w9 ⟨rfl,H⟩;rw[H];clear H;unfold aK at*;go_wp2_with fail;exact⟨rfl,I⟩
  by_cases hlt:d<r.length
  ·have Xi:=Jf d hlt;have g3:(d:Int)<(r.length:Int):=o_
   have Jn:=Xb.o hlt;rw[K3 hlt]at Jn;cases hsm:eJ (cI r[d])with
   | true=>
    have Jm:((r.drop d).head?.map jt).getD false=true:=(by rw[Jn];exact hsm);generalize cI r[d]=cd at*;by_cases h4:c=48
    ·have g1:(cc == 48)=true:=(by rw[Je];simp[h4]);have g2:¬(1:Int)<(d:Int):=λhh=>h48 ⟨h4,o_⟩;clear Je;have I:Hid (xQ C w Jg pl m op Z 2 ts nv (aK (2,pl)) w2):=.inr ⟨λe=>Jc.o.1 e (.inr (.inr Jm)),rfl,Jb⟩;have Jj:=ah (fx Ja 2);clear Ja Jf Jc Jb;go_wp2_with(go_at_call 106;refine(dh _ _).mono ?_;rintro e w' ⟨rfl,rfl⟩;rw[hsm])
     refine Jj.o.mono ?_;rintro e w9 ⟨rfl,H⟩;rw[H];clear H;unfold aK at*;go_wp2_with fail;exact⟨rfl,I⟩
    have g1:(cc == 48)=false:=(by rw[Je];simp[h4]);clear Je;have I:Hid (xQ C w Jg pl m op Z 2 ts nv (aK (2,pl)) w2):=.inr ⟨λe=>Jc.o.1 e (.inr (.inr Jm)),rfl,Jb⟩;have Jj:=ah (fx Ja 2);clear Ja Jf Jc Jb;go_wp2_with(go_at_call 106;refine(dh _ _).mono ?_;rintro e w' ⟨rfl,rfl⟩;rw[hsm]);refine Jj.o.mono ?_;rintro e w9 ⟨rfl,H⟩;rw[H];clear H;unfold aK at*;go_wp2_with fail;exact⟨rfl,I⟩
   | false=>
    have Jd:¬((c=48/\1<d)\/2147483647<numL ds\/((r.drop d).head?.map jt).getD false=true):=by
     rintro(hh|hh|hh)
     exact h48 hh
     have:=Jq.o;omega
     rw[Jn]at hh;have:jt r[d]=true:=hh;unfold jt at this;rw[hsm]at this;cases this
    generalize cI r[d]=cd at*;by_cases h4:c=48
    ·have g1:(cc == 48)=true:=(by rw[Je];simp[h4]);have g2:¬(1:Int)<(d:Int):=λhh=>h48 ⟨h4,o_⟩;clear Je;have c2:=(Ja.box 2 _ rfl).1;have f2:=(Ja.box 2 _ rfl).2;have c3:=(Ja.box 3 _ rfl).1;have f3:=(Ja.box 3 _ rfl).2;have c4:=(Ja.box 4 _ rfl).1;have f4:=(Ja.box 4 _ rfl).2;have⟨X,Y⟩:=Ja.put J (kd':=2) 2 (V 2) rfl;have⟨h2,O⟩:=X.put J (tt':=ts) 3 (sV ts) rfl;have⟨h3,U⟩:=h2.put J (vl':=nv) 4 (V nv) rfl;have I:Hid (xQ C w Jg pl m op Z 2 ts nv (rW (.tuple #[])) (((w2.setCell ⟨C.P,2,none⟩ (V 2)).setCell ⟨C.P,3,none⟩ (sV ts)).setCell ⟨C.P,4,none⟩ (V nv))):=.inl ⟨Jc.o.2 Jd,rfl,h3,((Jb.tcs.trans Y).trans O).trans U⟩;clear X h2 h3 Y O U Ja Jf Jc Jb;go_wp2_with(go_at_call 106;refine(dh _ _).mono ?_;rintro e w' ⟨rfl,rfl⟩;rw[hsm])
     exact bodyPost_end (v:=.tuple #[]) (by simp[results,results110,go_sem]) rfl I
    have g1:(cc == 48)=false:=(by rw[Je];simp[h4]);clear Je;have c2:=(Ja.box 2 _ rfl).1;have f2:=(Ja.box 2 _ rfl).2;have c3:=(Ja.box 3 _ rfl).1;have f3:=(Ja.box 3 _ rfl).2;have c4:=(Ja.box 4 _ rfl).1;have f4:=(Ja.box 4 _ rfl).2;have⟨X,Y⟩:=Ja.put J (kd':=2) 2 (V 2) rfl;have⟨h2,O⟩:=X.put J (tt':=ts) 3 (sV ts) rfl;have⟨h3,U⟩:=h2.put J (vl':=nv) 4 (V nv) rfl;have I:Hid (xQ C w Jg pl m op Z 2 ts nv (rW (.tuple #[])) (((w2.setCell ⟨C.P,2,none⟩ (V 2)).setCell ⟨C.P,3,none⟩ (sV ts)).setCell ⟨C.P,4,none⟩ (V nv))):=.inl ⟨Jc.o.2 Jd,rfl,h3,((Jb.tcs.trans Y).trans O).trans U⟩;clear X h2 h3 Y O U Ja Jf Jc Jb;go_wp2_with(go_at_call 106;refine(dh _ _).mono ?_;rintro e w' ⟨rfl,rfl⟩;rw[hsm]);exact bodyPost_end (v:=.tuple #[]) (by simp[results,results110,go_sem]) rfl I
  have g3:¬(d:Int)<(r.length:Int):=o_;have Jn:=Xa.o hlt;have Jd:¬((c=48/\1<d)\/2147483647<numL ds\/((r.drop d).head?.map jt).getD false=true):=by
   rintro(hh|hh|hh)
   exact h48 hh
   have:=Jq.o;omega
   rw[Jn]at hh;simp at hh
  by_cases h4:c=48
  ·have g1:(cc == 48)=true:=(by rw[Je];simp[h4]);have g2:¬(1:Int)<(d:Int):=λhh=>h48 ⟨h4,o_⟩;clear Je;have c2:=(Ja.box 2 _ rfl).1;have f2:=(Ja.box 2 _ rfl).2;have c3:=(Ja.box 3 _ rfl).1;have f3:=(Ja.box 3 _ rfl).2;have c4:=(Ja.box 4 _ rfl).1;have f4:=(Ja.box 4 _ rfl).2;have⟨X,Y⟩:=Ja.put J (kd':=2) 2 (V 2) rfl;have⟨h2,O⟩:=X.put J (tt':=ts) 3 (sV ts) rfl;have⟨h3,U⟩:=h2.put J (vl':=nv) 4 (V nv) rfl;have I:Hid (xQ C w Jg pl m op Z 2 ts nv (rW (.tuple #[])) (((w2.setCell ⟨C.P,2,none⟩ (V 2)).setCell ⟨C.P,3,none⟩ (sV ts)).setCell ⟨C.P,4,none⟩ (V nv))):=.inl ⟨Jc.o.2 Jd,rfl,h3,((Jb.tcs.trans Y).trans O).trans U⟩;clear X h2 h3 Y O U Ja Jf Jc Jb;go_wp2_with fail;exact bodyPost_end (v:=.tuple #[]) (by simp[results,results110,go_sem]) rfl I
  have g1:(cc == 48)=false:=(by rw[Je];simp[h4]);clear Je;have c2:=(Ja.box 2 _ rfl).1;have f2:=(Ja.box 2 _ rfl).2;have c3:=(Ja.box 3 _ rfl).1;have f3:=(Ja.box 3 _ rfl).2;have c4:=(Ja.box 4 _ rfl).1;have f4:=(Ja.box 4 _ rfl).2;have⟨X,Y⟩:=Ja.put J (kd':=2) 2 (V 2) rfl;have⟨h2,O⟩:=X.put J (tt':=ts) 3 (sV ts) rfl;have⟨h3,U⟩:=h2.put J (vl':=nv) 4 (V nv) rfl;have I:Hid (xQ C w Jg pl m op Z 2 ts nv (rW (.tuple #[])) (((w2.setCell ⟨C.P,2,none⟩ (V 2)).setCell ⟨C.P,3,none⟩ (sV ts)).setCell ⟨C.P,4,none⟩ (V nv))):=.inl ⟨Jc.o.2 Jd,rfl,h3,((Jb.tcs.trans Y).trans O).trans U⟩;clear X h2 h3 Y O U Ja Jf Jc Jb;go_wp2_with fail;exact bodyPost_end (v:=.tuple #[]) (by simp[results,results110,go_sem]) rfl I
 go_in;go_wp2_with fail;refine Jy.o.mono ?_;rintro e w9 ⟨rfl,H⟩;rw[H];clear H;have HP:=ah (Jv.o w r_ hn);have Jq:=ah hn;clear hn Ju Jv Je;go_wp2_with fail;refine HP.o.mono ?_;rintro e w2 ⟨x1,y1,z1,rfl,Jb⟩;have Ja:=HR.o.below J Jb;have Jf:=Jb;have I:Hid (xQ C w Jg pl m op Z 2 ts nv (aK (2,pl)) w2):=.inr ⟨λe=>Jc.o.1 e (.inr (.inl (Ft Jq.o))),rfl,Jb⟩;have Jj:=ah (fx Ja 2);clear Ja Jf Jc Jb;go_wp2_with fail;refine Jj.o.mono ?_;rintro e w9 ⟨rfl,H⟩;rw[H];clear H;unfold aK at*;go_wp2_with fail;exact⟨rfl,I⟩
def AP{p h:Nat}(H:p<=20000)(I:h<=20000):IntKind.i64.wrap ((p:Int)+(h:Int))=(p:Int)+(h:Int):=by rw[IntKind.wrap_i64];omega
def AQ{w:AT}{b:Nat}{l:List UInt8}(h:zo w b l)(e c:Nat)(hc:l.length<=c):rj w b (if c=e then 0 else e) (l.drop e):=λj hj=>by rw[length_drop]at hj;rw[if_neg o_,getElem_drop];exact h (e+j) o_
def mt.drewN{C:RC}{w:AT}{pos kd:Int}{tt:IF}{vl pl:Int}{m:TV}{op:Int}(hC:Dv C)(h:mt C w pos kd tt vl pl m op)(n:Nat):mt C (w.drewN n) pos kd tt vl pl m op:=h.below hC ⟨rfl,rfl,rfl,n_,λ_ _=>rfl⟩
def IS{C:RC}{w w':AT}{i:Nat}{m:TV}{op:Int}{tt:IF}{H:Int}{I Jc:Int}(U:Dv C)(Z:i<=C.K)(Jd:0<=op/\op<=30)(h5:(ak C.l i).kd≠5)(Y:I=fQ (ak C.l i))(Ja:Jc=(lN C.l (i+1):Int))(X:fQ (ak C.l i)=1\/fQ (ak C.l i)=3->tt=(ak C.l i).text)(hv:(ak C.l i).kd=2->H=(ak C.l i).num)
  (J:mt C w' Jc I tt H ((ak C.l i).pl:Int) m op) (t:aA (λk=>k=C.P) w w'):∀z:PS,z.i=i->z.er=0->z.op=op->gG C m w z (.tuple #[]) (rW (.tuple #[])) w':=by
 rintro z rfl O rfl;have Jb:¬ls (ak C.l) z:=by
  rintro(h|h)
  exact h O;exact h5 h
 rw[Y,Ja]at J;exact .inl ⟨Jb,rfl,⟨U,Jb,Z,Jd,tt,H,J,X,hv⟩,t⟩
def Ly{C:RC}{w w':AT}{i:Nat}{m:TV}{op:Int}(h5:(ak C.l i).kd=5)(H:Kp C w w'):∀z:PS,z.i=i->z.er=0->z.op=op->gG C m w z (.tuple #[]) (aK (2,((ak C.l i).pl:Int))) w':=by rintro z rfl h rfl;refine .inr ⟨.inr h5,?_,H⟩;unfold qL;rw[if_pos h]
def IT{c:UInt8}{q:List UInt8}{p:Nat}(h:jt c=true):gY (c::q) p=if 20<((c::q).takeWhile gX).length then(⟨5,tx [],0,p⟩,0)else(⟨1,tx ((c::q).takeWhile gX),0,p⟩,((c::q).takeWhile gX).length):=by unfold gY;simp only[h,if_true]
def Lz{c:UInt8}{q:List UInt8}{p:Nat}(h:jt c=false)(H:a8 c=true):gY (c::q) p=if (c=48/\1<((c::q).takeWhile a8).length)\/2147483647<numL ((c::q).takeWhile a8)\/(((c::q).drop ((c::q).takeWhile a8).length).head?.map jt).getD false=true then(⟨5,tx [],0,p⟩,0)else(⟨2,tx [],(numL ((c::q).takeWhile a8):Int),p⟩,((c::q).takeWhile a8).length):=by unfold gY;simp only[h,H,if_true,Bool.false_eq_true,if_false]
def LA{c:UInt8}{q:List UInt8}{p:Nat}(h:jt c=false)(H:a8 c=false):gY (c::q) p=if cR (c::q)=[]then(⟨5,tx [],0,p⟩,0)else(⟨3,tx (cR (c::q)),0,p⟩,(cR (c::q)).length):=by unfold gY;simp only[h,H,Bool.false_eq_true,if_false]
def JR{α:Type}(f:α->Bool)(r:List α):r.take (r.takeWhile f).length=r.takeWhile f:=by have h:=jY f r;have e:=rO f r (r.takeWhile f).length h (λk hk hkd=>DZ f _ k hkd hk) (λhk=>DY f _ hk);exact e.symm
theorem Fy{C:RC}:nT C:=by
 intro w i kd tt vl pl m op J h hi Yu;have Xv:lN C.l i<=C.l.length:=Aq C.l i;have⟨e,he⟩:=q_ (lN C.l i);have Jl:ak C.l i=(gY (C.l.drop (e+ox (C.l.drop e))) (e+ox (C.l.drop e))).1:=by rw[he];rfl
 have Jp:lN C.l (i+1)=e+ox (C.l.drop e)+(gY (C.l.drop (e+ox (C.l.drop e))) (e+ox (C.l.drop e))).2:=by rw[he];rfl
 rw[<-he]at h Xv;have Ym:ox (C.l.drop e)<=C.l.length-e:=by have:=Ao (C.l.drop e);rwa[List.length_drop]at this
 have Y_:=J.len;have Jx:=J.cap;have Ys:=λW (hW:zo W C.bX C.l)=>CJ C.bX (if C.cX=e then 0 else e) (C.cX-e) (C.l.drop e) W (by rw[List.length_drop];omega) (AQ hW e C.cX Jx);have Xp:Hid (∀W,zo W C.bX C.l->Calls prog 104 #[.slice (some ⟨C.bX,if C.cX=e then 0 else e,none⟩) (C.l.length-e) (C.cX-e),.func (.func 105) #[] #[]] W λee w'=>ee=rW (V (ox (C.l.drop e):Int))/\w'=W):=λW hW=>by have h:=Ys W hW;rw[List.length_drop]at h;exact h
 have Xe:=qg C.bX C.l.length C.cX e Xv Jx;have⟨bl,Xb⟩:=q_ (ox (C.l.drop e));rw[<-Xb]at Jl Jp Ym Xp;have⟨p,Xw⟩:=q_ (e+bl);rw[<-Xw]at Jl Jp;have Xt:p<=20000:=o_;have Yp:p<=C.l.length:=o_;have Xa:=qg C.bX C.l.length C.cX p Yp Jx;have Yk:(ak C.l i).pl=p:=by rw[Jl];exact G7 _ _
 have Yz:=h.txt;have Xl:IntKind.i64.wrap ((e:Int)+(bl:Int))=(p:Int):=by rw[AP o_ o_,Xw];omega
 have⟨W1,Xn⟩:=q_ w.drew;have Ya:Bl w W1:=by rw[Xn];exact r_.drew
 have Jw:=h.below J Ya;have Yi:=ah (Xp.out W1 Jw.txt);have H:=ah (show W1.cell? ⟨C.P,0,none⟩=some (rV C.bX C.l.length C.cX)/\W1.cell? ⟨C.P,1,none⟩=some (V (e:Int))from⟨(Jw.box 0 _ rfl).1,(Jw.box 1 _ rfl).1⟩);have c1:=(Jw.box 1 _ rfl).1;have f1:=(Jw.box 1 _ rfl).2;have⟨h2,t2⟩:=Jw.put J (pos':=(p:Int)) 1 (V (p:Int)) rfl;have⟨W2,Xy⟩:=q_ (W1.setCell ⟨C.P,1,none⟩ (V (p:Int)));rw[<-Xy]at h2 t2;have⟨Yh,Yw⟩:=h2.put J (kd':=0) 2 (V 0) rfl;have⟨Yg,Yr⟩:=Yh.put J (tt':=⟨#[]⟩) 3 (sV ⟨#[]⟩) rfl;have⟨Yc,Yx⟩:=Yg.put J (vl':=0) 4 (V 0) rfl;have⟨h3,Yb⟩:=Yc.put J (pl':=(p:Int)) 5 (V (p:Int)) rfl;have⟨W3,Xs⟩:=q_ ((((W2.setCell ⟨C.P,2,none⟩ (V 0)).setCell ⟨C.P,3,none⟩ (sV ⟨#[]⟩)).setCell ⟨C.P,4,none⟩ (V 0)).setCell ⟨C.P,5,none⟩ (V (p:Int)));rw[<-Xs]at h3 Yb;have Yf:aA (λk=>k=C.P) w W3:=((((Ya.tcs.trans t2).trans Yw).trans Yr).trans Yx).trans Yb;have Yo:=ah h3;have Yy:=ah Yf;have d1:=(h2.box 1 _ rfl).1;have d2:=(h2.box 2 _ rfl).1;have g2:=(h2.box 2 _ rfl).2;have d3:=(h2.box 3 _ rfl).1;have g3:=(h2.box 3 _ rfl).2;have d4:=(h2.box 4 _ rfl).1;have g4:=(h2.box 4 _ rfl).2;have d5:=(h2.box 5 _ rfl).1;have g5:=(h2.box 5 _ rfl).2;have k0:=(h3.box 0 _ rfl).1;have k1:=(h3.box 1 _ rfl).1;have Zf:=ah Xn;have Za:=ah Xy;have Ze:=ah Xs;have Ye:=ah hi;have J_:=ah Yu;have Yq:C.B0<=w.heap.size:=by have:=h.lt;have:=J.hi;omega
 have Yn:Hid (∀W,aA (λk=>k=C.P) w W->Kp C w W):=λW ht=>m8 ht (λk Z=>by rw[Z];exact⟨J.hi,o_⟩) Yq;have Xd:=ah Jl;have Yv:=ah Jp;have Xr:=ah Yk;clear h Ys Ym Yz Xn Ya Jw h2 t2 Xy Yh Yw Yg Yr Yc Yx h3 Yb Xs Yf hi Yu Xp Jl Jp Yk he Xv Xb Xw Yq;generalize (if C.cX=e then 0 else e)=o1 at*;generalize C.l.length-e=n1 at*;generalize C.cX-e=c1' at*;go_in;go_upto_region 0 with fail;refine db 17 (λX=>X.cell? ⟨C.P,0,none⟩=some (rV C.bX C.l.length C.cX)/\X.cell? ⟨C.P,1,none⟩=some (V (e:Int))) k_ ?_;rw[<-Zf.out];refine tk 0 [1,2,3,14,17] H.out ?_;refine tk 1 [2,3,14,17] H.out ?_;refine tk 2 [3,14,17] H.out ?_;refine tk 3 [14,17] H.out ?_;refine tk 4 [5,6,7,12,13,14,17] H.out ?_;refine tk 5 [6,7,12,13,14,17] H.out ?_;refine tk 6 [7,12,13,14,17] H.out ?_;refine tk 7 [12,13,14,17] H.out ?_;refine tk 8 [9,10,11,12,13,14,17] H.out ?_;refine tk 9 [10,11,12,13,14,17] H.out ?_;refine tk 10 [11,12,13,14,17] H.out ?_;refine tk 11 [12,13,14,17] H.out ?_;refine tk 12 [13,14,17] H.out ?_;refine aE (i:=13) k_ rfl (λK hK=>?_);go_simp;refine Yi.out.mono ?_;rintro ee w9 ⟨rfl,hw⟩;rw[hw];clear hw;refine hK.out _ _ (λ_=>H) ?_;clear hK K;try simp only[Act.put,tA,tB,tC]
 refine tk 14 [17] H.out ?_;refine tk 15 [16,17] H.out ?_;refine tk 16 [17] H.out ?_;clear H Yi;refine aE (i:=17) k_ rfl (λK hK=>?_);go_simp;rw[<-Za.out];refine hK.out _ _ (λh=>absurd rfl h) ?_;clear hK K;refine ct k_ ?_ _;clear c1 f1 Xl Xe;go_upto_region 2 with fail;rw[<-Ze.out];clear d1 d2 d3 d4 d5 g2 g3 g4 g5;go_quiet (fail);have Jb:=Yo.out.drewN J nq;have Xz:aA (λk=>k=C.P) w (W3.drewN nq):=Yy.out.of_below ⟨rfl,rfl,rfl,n_,λ_ _=>rfl⟩;have Jq:=AQ Jb.txt p C.cX Jx;have Yj:(C.l.drop p).length=C.l.length-p:=List.length_drop;have Xu:(C.l.drop p).length<=C.cX-p:=o_;have Zh:(C.l.drop p).length<=20000:=o_;have Zc:C.bX<(W3.drewN nq).heap.size:=by have:=Jb.lt;have:=J.hi;have:=J.lo;omega
 clear Yo Yy k0 k1 Xa Jx Y_ Yp;generalize W3.drewN nq=w4 at*;rw[<-Yj];generalize (if C.cX=p then 0 else p)=o2 at*;generalize C.cX-p=c2 at*;have Jr:=ah (show ak C.l i=(gY (C.l.drop p) p).1 from Xd);have Js:=ah (show lN C.l (i+1)=p+(gY (C.l.drop p) p).2 from Yv);generalize C.l.drop p=r at*;clear Xd Yv Yj;have Jt:=ah λW' kd tt vl pos (h5:(ak C.l i).kd≠5) (Z:kd=fQ (ak C.l i)) (hp:pos=(lN C.l (i+1):Int)) (ht:(fQ (ak C.l i)=1\/fQ (ak C.l i)=3->tt=(ak C.l i).text)) (hv:((ak C.l i).kd=2->vl=(ak C.l i).num)) (hR:mt C W' pos kd tt vl (p:Int) m op) (t:aA (λk=>k=C.P) w W')=>IS J Ye.out J_.out h5 Z hp ht hv (by rw[Xr.out];exact hR) t;have Jv:Hid ((ak C.l i).kd=5->∀W',Bl w4 W'->∀z:PS,z.i=i->z.er=0->z.op=op->gG C m w z (.tuple #[]) (aK (2,(p:Int))) W'):=λh5 W' Y=>by have h:=Ly (op:=op) (m:=m) h5 ((Yn.out _ Xz).trans (Kp.of Y));rw[Xr.out]at h;exact h
 have Ju:=ah Xz;clear Ye J_ Xr Yn Xz;cases r with
 | nil=>have Z:ak C.l i=⟨4,tx [],0,p⟩:=Jr.out;have U:=ah (Jt.out w4 0 ⟨#[]⟩ 0 (p:Int) (by rw[Z];show(4:Int)≠5;decide) (by rw[Z];rfl) (by rw[Js.out];rfl) (by rw[Z];intro h;simp[fQ]at h) (by rw[Z];intro h;simp at h) Jb Ju);clear Z Jb Jq Jr Js Jt Jv Ju;go_wp2_with fail;exact bodyPost_ret (v:=.tuple #[]) (by simp[results,results66,go_sem]) rfl U
 | cons c q=>
  have Zi:w4.cell? ⟨C.bX,o2,none⟩=some (.int .u8 (cI c)):=Jq 0 i_;have Zd:(0:Int)<(((c::q).length:Nat):Int):=by rw[l_c];omega
  have Zg:((((c::q).length:Nat):Int) == 0)=false:=by simp only[beq_eq_false_iff_ne];omega
  cases hf:jt c with
  | true=>
   have Xc:eJ (cI c)=true:=hf;have⟨I,Je⟩:=q_ (((c::q).takeWhile gX).length);have Xm:I<=(c::q).length:=(by rw[Je];exact jY _ _);have Yt:=ah (zp C.bX o2 c2 (c::q) w4 i_ o_ hf Jq);have Xe:=qj C.bX o2 (c::q).length c2 I Xm Xu;have Yl:=wI Jq c2 I Xm;rw[Je,JR]at Yl;rw[<-Je]at Yt Yl;obtain⟨O,Jh⟩:∃O:Prop,O↔I<=20:=⟨_,Iff.rfl⟩;obtain⟨kx,Xx⟩:∃kx:Int,kx=if i7 (tx ((c::q).takeWhile gX))=true then 3 else 1:=⟨_,rfl⟩;have Yd:(tx ((c::q).takeWhile gX)).size=I:=(by rw[iD,Je]);have Xj:=ah (Lv J Jb ((c::q).takeWhile gX) o_ O (by rw[Jh,Je]) kx Xx);have Ja:=Jr.out;have Ji:=Js.out;rw[IT hf,<-Je]at Ja Ji;have Jc:Hid (O->∀W',mt C W' ((p:Int)+(I:Int)) (kx) (tx ((c::q).takeWhile gX)) (0) (p:Int) m op->aA (λk=>k=C.P) w W'->∀z:PS,z.i=i->z.er=0->z.op=op->gG C m w z (.tuple #[]) (rW (.tuple #[])) W'):=λh W' hR t=>by have Xq:¬20<I:=(by have:=Jh.1 h;omega);rw[if_neg Xq]at Ja Ji;have Zb:kx=fQ (ak C.l i):=(by rw[Ja,Xx];rfl);exact Jt.out W' kx _ 0 _ (by rw[Ja];show(1:Int)≠5;decide) Zb (by rw[Ji];push_cast;rfl) (λ_=>by rw[Ja]) (λh=>by rw[Ja]at h;cases h) hR t
   have Jf:Hid (¬O->∀W',Bl w4 W'->∀z:PS,z.i=i->z.er=0->z.op=op->gG C m w z (.tuple #[]) (aK (2,(p:Int))) W'):=λh W' Y=>by
    have Xq:20<I:=by by_cases e:I<=20;exact absurd (Jh.2 e) h;omega
    rw[if_pos Xq]at Ja;exact Jv.out (by rw[Ja]) W' Y
   have Jg:=Ju.out;have Jk:I<=20000:=o_;clear Jt Jv Jr Js Ja Ji Jh Xx Je hf Ju Jb Jq;generalize tx ((c::q).takeWhile gX)=ts at*;generalize hrr:c::q=r at*;generalize cI c=cc at*;clear hrr;go_wp2_with(go_at_call 106;refine(dh _ _).mono ?_;rintro e w' ⟨rfl,rfl⟩;rw[Xc]);refine Yt.out.mono ?_;rintro ee w9 ⟨rfl,hw⟩;rw[hw];clear hw;go_wp2_with fail;refine(Xj).mono (λe w5 hg=>?_);rcases hg.symm with⟨Jz,rfl,Xh⟩|⟨Jn,rfl,Jb,t4⟩
   ·have U:=ah (Jf.out Jz _ Xh);unfold aK at*;go_wp2_with fail;exact⟨rfl,U⟩
   replace t4:=Jg.trans t4
   clear Jg;have Jj:=ah (Jc.out Jn);clear Jc Jf;have Xf:=(Jb.box 1 _ rfl).1;have Xi:=(Jb.box 1 _ rfl).2;have Jy:=(Jb.box 3 _ rfl).1;have⟨W5,Jm⟩:=q_ w5.drew;have Jo:Bl w5 W5:=(by rw[Jm];exact r_.drew);have Jd:=Jb.below J Jo;have Xl:IntKind.i64.wrap ((p:Int)+(I:Int))=(p:Int)+(I:Int):=AP Xt (Jk);have H:=ah (show W5.cell? ⟨C.P,1,none⟩=some (V (p:Int))/\W5.cell? ⟨C.P,3,none⟩=some (sV ts)from⟨(Jd.box 1 _ rfl).1,(Jd.box 3 _ rfl).1⟩);have q1:=(Jd.box 1 _ rfl).1;have q2:=(Jd.box 1 _ rfl).2;have⟨h6,t6⟩:=Jd.put J (pos':=(p:Int)+(I:Int)) 1 (V ((p:Int)+(I:Int))) rfl;have U:=ah (Jj.out _ h6 (t4.trans (Jo.tcs.trans t6)));have Xg:=ah Jm;clear Jb Jd h6 t6 Jo Jm t4 Xf Xi Jy;go_upto_region 9 with fail;refine db 13 (λX=>X.cell? ⟨C.P,1,none⟩=some (V (p:Int))/\X.cell? ⟨C.P,3,none⟩=some (sV ts)) k_ ?_;rw[<-Xg.out];refine tk 0 [1,2,3,10,13] H.out ?_;refine tk 1 [2,3,10,13] H.out ?_;refine tk 2 [3,10,13] H.out ?_;refine tk 3 [10,13] H.out ?_;refine tk 4 [5,6,7,8,9,10,13] H.out ?_;refine tk 5 [6,7,8,9,10,13] H.out ?_;refine tk 6 [7,8,9,10,13] H.out ?_;refine tk 7 [8,9,10,13] H.out ?_;refine tk 8 [9,10,13] H.out ?_;refine tk 9 [10,13] H.out ?_;refine tk 10 [13] H.out ?_;refine tk 11 [12,13] H.out ?_;refine tk 12 [13] H.out ?_;clear H;refine aE (i:=13) k_ rfl (λK hK=>?_);go_simp;refine hK.out _ _ (λh=>absurd rfl h) ?_;clear hK K;refine ct k_ ?_ _;go_wp2_with fail;exact bodyPost_end (v:=.tuple #[]) (by simp[results,results66,go_sem]) rfl U
  | false=>
   cases hg:a8 c with
   | true=>
    have Xc:eJ (cI c)=false:=hf;have Xo:iL (cI c)=true:=hg;have⟨I,Je⟩:=q_ (((c::q).takeWhile a8).length);have Xm:I<=(c::q).length:=(by rw[Je];exact jY _ _);obtain⟨O,Jh⟩:∃O:Prop,O ↔ ¬zr (c::q) c ((c::q).takeWhile a8).length:=⟨_,Iff.rfl⟩;have Yd:(tx ((c::q).takeWhile a8)).size=I:=(by rw[iD,Je]);have Xj:=ah (Lx J Jb C.bX o2 c2 Zc c q o_ Xu Jq hg O Jh);have Ja:=Jr.out;have Ji:=Js.out;rw[Lz hf hg]at Ja Ji;have X_:zr (c::q) c ((c::q).takeWhile a8).length↔((c=48/\1<((c::q).takeWhile a8).length)\/2147483647<numL ((c::q).takeWhile a8)\/(((c::q).drop ((c::q).takeWhile a8).length).head?.map jt).getD false=true):=by unfold zr;rw[JR]
    have Jc:Hid (O->∀W',mt C W' ((p:Int)+(I:Int)) (2) (tx ((c::q).takeWhile a8)) ((numL ((c::q).takeWhile a8):Int)) (p:Int) m op->aA (λk=>k=C.P) w W'->∀z:PS,z.i=i->z.er=0->z.op=op->gG C m w z (.tuple #[]) (rW (.tuple #[])) W'):=λh W' hR t=>by have Y:=Jh.1 h;rw[X_]at Y;rw[if_neg Y]at Ja Ji;exact Jt.out W' 2 _ _ _ (by rw[Ja];show(2:Int)≠5;decide) (by rw[Ja];rfl) (by rw[Ji,Je];push_cast;rfl) (λh=>by rw[Ja]at h;simp[fQ]at h) (λ_=>by rw[Ja]) hR t
    have Jf:Hid (¬O->∀W',Bl w4 W'->∀z:PS,z.i=i->z.er=0->z.op=op->gG C m w z (.tuple #[]) (aK (2,(p:Int))) W'):=λh W' Y=>by
     have Xk:zr (c::q) c ((c::q).takeWhile a8).length:=by by_cases e:zr (c::q) c ((c::q).takeWhile a8).length;exact e;exact absurd (Jh.2 e) h
     rw[X_]at Xk;rw[if_pos Xk]at Ja;exact Jv.out (by rw[Ja]) W' Y
    have Jg:=Ju.out;have Jk:I<=20000:=o_;clear Jt Jv Jr Js Ja Ji Jh Je hf Ju Jb Jq X_ hg;generalize tx ((c::q).takeWhile a8)=ts at*;generalize (numL ((c::q).takeWhile a8):Int)=nv at*;generalize hrr:c::q=r at*;generalize cI c=cc at*;clear hrr;go_wp2_with(first|(go_at_call 106;refine(dh _ _).mono ?_;rintro e w' ⟨rfl,rfl⟩;rw[Xc])|(go_at_call 109;refine(jd _ _).mono ?_;rintro e w' ⟨rfl,rfl⟩;rw[Xo]));refine(Xj).mono (λe w5 hg=>?_);rcases hg.symm with⟨Jz,rfl,Xh⟩|⟨Jn,rfl,Jb,t4⟩
    ·have U:=ah (Jf.out Jz _ Xh);unfold aK at*;go_wp2_with fail;exact⟨rfl,U⟩
    replace t4:=Jg.trans t4
    clear Jg;have Jj:=ah (Jc.out Jn);clear Jc Jf;have Xf:=(Jb.box 1 _ rfl).1;have Xi:=(Jb.box 1 _ rfl).2;have Jy:=(Jb.box 3 _ rfl).1;have⟨W5,Jm⟩:=q_ w5.drew;have Jo:Bl w5 W5:=(by rw[Jm];exact r_.drew);have Jd:=Jb.below J Jo;have Xl:IntKind.i64.wrap ((p:Int)+(I:Int))=(p:Int)+(I:Int):=AP Xt (Jk);have H:=ah (show W5.cell? ⟨C.P,1,none⟩=some (V (p:Int))/\W5.cell? ⟨C.P,3,none⟩=some (sV ts)from⟨(Jd.box 1 _ rfl).1,(Jd.box 3 _ rfl).1⟩);have q1:=(Jd.box 1 _ rfl).1;have q2:=(Jd.box 1 _ rfl).2;have⟨h6,t6⟩:=Jd.put J (pos':=(p:Int)+(I:Int)) 1 (V ((p:Int)+(I:Int))) rfl;have U:=ah (Jj.out _ h6 (t4.trans (Jo.tcs.trans t6)));have Xg:=ah Jm;clear Jb Jd h6 t6 Jo Jm t4 Xf Xi Jy;go_upto_region 9 with fail;refine db 13 (λX=>X.cell? ⟨C.P,1,none⟩=some (V (p:Int))/\X.cell? ⟨C.P,3,none⟩=some (sV ts)) k_ ?_;rw[<-Xg.out];refine tk 0 [1,2,3,10,13] H.out ?_;refine tk 1 [2,3,10,13] H.out ?_;refine tk 2 [3,10,13] H.out ?_;refine tk 3 [10,13] H.out ?_;refine tk 4 [5,6,7,8,9,10,13] H.out ?_;refine tk 5 [6,7,8,9,10,13] H.out ?_;refine tk 6 [7,8,9,10,13] H.out ?_;refine tk 7 [8,9,10,13] H.out ?_;refine tk 8 [9,10,13] H.out ?_;refine tk 9 [10,13] H.out ?_;refine tk 10 [13] H.out ?_;refine tk 11 [12,13] H.out ?_;refine tk 12 [13] H.out ?_;clear H;refine aE (i:=13) k_ rfl (λK hK=>?_);go_simp;refine hK.out _ _ (λh=>absurd rfl h) ?_;clear hK K;refine ct k_ ?_ _;go_wp2_with fail;exact bodyPost_end (v:=.tuple #[]) (by simp[results,results66,go_sem]) rfl U
   | false=>
    have Xc:eJ (cI c)=false:=hf;have Xo:iL (cI c)=false:=hg;have⟨I,Je⟩:=q_ ((cR (c::q)).length);have Xm:I<=2:=(by rw[Je];exact(pk _).2);obtain⟨O,Jh⟩:∃O:Prop,O↔cR (c::q)≠[]:=⟨_,Iff.rfl⟩;have Yd:(tx (cR (c::q))).size=I:=(by rw[iD,Je]);have Xj:=ah (Lw J Jb C.bX o2 c2 (c::q) i_ o_ Xu Jq O Jh);have Ja:=Jr.out;have Ji:=Js.out;rw[LA hf hg]at Ja Ji;have Jc:Hid (O->∀W',mt C W' ((p:Int)+(I:Int)) (3) (tx (cR (c::q))) (0) (p:Int) m op->aA (λk=>k=C.P) w W'->∀z:PS,z.i=i->z.er=0->z.op=op->gG C m w z (.tuple #[]) (rW (.tuple #[])) W'):=λh W' hR t=>by rw[if_neg (Jh.1 h)]at Ja Ji;exact Jt.out W' 3 _ _ _ (by rw[Ja];show(3:Int)≠5;decide) (by rw[Ja];rfl) (by rw[Ji,Je];push_cast;rfl) (λ_=>by rw[Ja]) (λh=>by rw[Ja]at h;cases h) hR t
    have Jf:Hid (¬O->∀W',Bl w4 W'->∀z:PS,z.i=i->z.er=0->z.op=op->gG C m w z (.tuple #[]) (aK (2,(p:Int))) W'):=λh W' Y=>by
     have Xk:cR (c::q)=[]:=by by_cases e:cR (c::q)=[];exact e;exact absurd (Jh.2 e) h
     rw[if_pos Xk]at Ja;exact Jv.out (by rw[Ja]) W' Y
    have Jg:=Ju.out;have Jk:I<=20000:=o_;clear Jt Jv Jr Js Ja Ji Jh Je hf Ju Jb Jq hg;generalize tx (cR (c::q))=ts at*;generalize hrr:c::q=r at*;generalize cI c=cc at*;clear hrr;go_wp2_with(first|(go_at_call 106;refine(dh _ _).mono ?_;rintro e w' ⟨rfl,rfl⟩;rw[Xc])|(go_at_call 109;refine(jd _ _).mono ?_;rintro e w' ⟨rfl,rfl⟩;rw[Xo]));refine(Xj).mono (λe w5 hg=>?_);rcases hg.symm with⟨Jz,rfl,Xh⟩|⟨Jn,rfl,Jb,t4⟩
    ·have U:=ah (Jf.out Jz _ Xh);unfold aK at*;go_wp2_with fail;exact⟨rfl,U⟩
    replace t4:=Jg.trans t4
    clear Jg;have Jj:=ah (Jc.out Jn);clear Jc Jf;have Xf:=(Jb.box 1 _ rfl).1;have Xi:=(Jb.box 1 _ rfl).2;have Jy:=(Jb.box 3 _ rfl).1;have⟨W5,Jm⟩:=q_ w5.drew;have Jo:Bl w5 W5:=(by rw[Jm];exact r_.drew);have Jd:=Jb.below J Jo;have Xl:IntKind.i64.wrap ((p:Int)+(I:Int))=(p:Int)+(I:Int):=AP Xt (Jk);have H:=ah (show W5.cell? ⟨C.P,1,none⟩=some (V (p:Int))/\W5.cell? ⟨C.P,3,none⟩=some (sV ts)from⟨(Jd.box 1 _ rfl).1,(Jd.box 3 _ rfl).1⟩);have q1:=(Jd.box 1 _ rfl).1;have q2:=(Jd.box 1 _ rfl).2;have⟨h6,t6⟩:=Jd.put J (pos':=(p:Int)+(I:Int)) 1 (V ((p:Int)+(I:Int))) rfl;have U:=ah (Jj.out _ h6 (t4.trans (Jo.tcs.trans t6)));have Xg:=ah Jm;clear Jb Jd h6 t6 Jo Jm t4 Xf Xi Jy;go_upto_region 9 with fail;refine db 13 (λX=>X.cell? ⟨C.P,1,none⟩=some (V (p:Int))/\X.cell? ⟨C.P,3,none⟩=some (sV ts)) k_ ?_;rw[<-Xg.out];refine tk 0 [1,2,3,10,13] H.out ?_;refine tk 1 [2,3,10,13] H.out ?_;refine tk 2 [3,10,13] H.out ?_;refine tk 3 [10,13] H.out ?_;refine tk 4 [5,6,7,8,9,10,13] H.out ?_;refine tk 5 [6,7,8,9,10,13] H.out ?_;refine tk 6 [7,8,9,10,13] H.out ?_;refine tk 7 [8,9,10,13] H.out ?_;refine tk 8 [9,10,13] H.out ?_;refine tk 9 [10,13] H.out ?_;refine tk 10 [13] H.out ?_;refine tk 11 [12,13] H.out ?_;refine tk 12 [13] H.out ?_;clear H;refine aE (i:=13) k_ rfl (λK hK=>?_);go_simp;refine hK.out _ _ (λh=>absurd rfl h) ?_;clear hK K;refine ct k_ ?_ _;go_wp2_with fail;exact bodyPost_end (v:=.tuple #[]) (by simp[results,results66,go_sem]) rfl U
end Go.Proofs.YtngnoopnloojjaaGreatDoor
