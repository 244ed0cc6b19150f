import Derived.Test.YtngnoopnloojjaaGreatDoorQ71
import Derived.Test.YtngnoopnloojjaaGreatDoorQ60
namespace Go.Proofs.YtngnoopnloojjaaGreatDoor
open Go.World List
open Go.Proofs.Tryz Go.RowKit
set_option linter.all false
set_option maxRecDepth 100000
set_option maxHeartbeats 0
variable[Inhabited Pick]
section
variable{sp:Int}
def F5(C:IC)(hC:C.Ok)(w:AT)(its:List It)(l:Int)(hG:Gi C w its l)(op rd s1 s2 im:Int)(hi:its.length<=9000000):Calls prog 139 #[pV C.P,.agg #[V op,V rd,V s1,V s2,V im]] w λe w'=>(∃u,e=rW u)/\Wi C w its [aw op rd s1 s2 im] l w':=
 (qe C.P its _ op rd s1 s2 im w hG.es hi).mono (λ_ _ h=>⟨h.1,Wi.of hG h.2.1 h.2.2⟩)
def nA(C:IC)(hC:C.Ok)(w:AT)(its:List It)(l:Int)(hG:Gi C w its l)(kd lb:Int)(hi:its.length<=9000000):Calls prog 84 #[pV C.P,V kd,V lb] w λe w'=>(∃u,e=rW u)/\Wi C w its [aW kd lb] l w':=
 (sK C.P its _ kd lb w hG.es hi).mono (λ_ _ h=>⟨h.1,Wi.of hG h.2.1 h.2.2⟩)
def bO(C:IC)(J:C.Ok)(w:AT)(its:List It)(l:Int)(U:Gi C w its l)(op rd s1 s2:Int)(O:its.length<=9000000):
  Calls prog 228 #[pV C.P,V op,V rd,V s1,V s2] w λe w'=>(∃u,e=rW u)/\Wi C w its ([aw op rd s1 s2 0]) l w':=by
 have⟨I,H⟩:=h2 J U;go_in;go_wp2_with fail;refine(F5 C I.o w its (l) H.o op rd s1 s2 0 O).mono ?_;rintro x Jc ⟨⟨Jd,rfl⟩,Ja⟩;have Jb:=ah Ja;go_wp2_with fail;exact bodyPost_end (v:=.tuple #[]) (by simp[results,results228,go_sem]) rfl ⟨⟨_,rfl⟩,Jb⟩
def bF(C:IC)(J:C.Ok)(w:AT)(its:List It)(l:Int)(U:Gi C w its l)(op rd s1 im:Int)(O:its.length<=9000000):
  Calls prog 141 #[pV C.P,V op,V rd,V s1,V im] w λe w'=>(∃u,e=rW u)/\Wi C w its ([aw op rd s1 0 im]) l w':=by
 have⟨I,H⟩:=h2 J U;go_in;go_wp2_with fail;refine(F5 C I.o w its (l) H.o op rd s1 0 im O).mono ?_;rintro x Jc ⟨⟨Jd,rfl⟩,Ja⟩;have Jb:=ah Ja;go_wp2_with fail;exact bodyPost_end (v:=.tuple #[]) (by simp[results,results141,go_sem]) rfl ⟨⟨_,rfl⟩,Jb⟩
def xe(C:IC)(U:C.Ok)(w:AT)(its:List It)(l:Int)(Y:Gi C w its l)(H I:Int)(X:its.length<=9000000):
  Calls prog 207 #[pV C.P,V H,V I] w λe w'=>(∃u,e=rW u)/\Wi C w its ([aw 12 H I 0 0]) l w':=by
 have⟨O,J⟩:=h2 U Y;go_in;go_wp2_with fail;refine(bF C O.o w its (l) J.o 12 H I 0 X).mono ?_;rintro x Jc ⟨⟨Jd,rfl⟩,Ja⟩;have Jb:=ah Ja;go_wp2_with fail;exact bodyPost_end (v:=.tuple #[]) (by simp[results,results207,go_sem]) rfl ⟨⟨_,rfl⟩,Jb⟩
def sW(C:IC)(J:C.Ok)(w:AT)(its:List It)(l:Int)(U:Gi C w its l)(r bs off:Int)(O:its.length<=9000000):
  Calls prog 145 #[pV C.P,V r,V bs,V off] w λe w'=>(∃u,e=rW u)/\Wi C w its ([aw 10 r bs 0 off]) l w':=by
 have⟨I,H⟩:=h2 J U;go_in;go_wp2_with fail;refine(bF C I.o w its (l) H.o 10 r bs off O).mono ?_;rintro x Jc ⟨⟨Jd,rfl⟩,Ja⟩;have Jb:=ah Ja;go_wp2_with fail;exact bodyPost_end (v:=.tuple #[]) (by simp[results,results145,go_sem]) rfl ⟨⟨_,rfl⟩,Jb⟩
def jK(C:IC)(J:C.Ok)(w:AT)(its:List It)(l:Int)(U:Gi C w its l)(r bs off:Int)(O:its.length<=9000000):
  Calls prog 142 #[pV C.P,V r,V bs,V off] w λe w'=>(∃u,e=rW u)/\Wi C w its ([aw 11 0 bs r off]) l w':=by
 have⟨I,H⟩:=h2 J U;go_in;go_wp2_with fail;refine(F5 C I.o w its (l) H.o 11 0 bs r off O).mono ?_;rintro x Jc ⟨⟨Jd,rfl⟩,Ja⟩;have Jb:=ah Ja;go_wp2_with fail;exact bodyPost_end (v:=.tuple #[]) (by simp[results,results142,go_sem]) rfl ⟨⟨_,rfl⟩,Jb⟩
def eu(d:Int)(w:AT):Calls prog 245 #[V d] w λe w'=>e=rW (.bool (decide (d<5)))/\w'=w:=by
 by_cases h:d<5
 ·have H:Hid (decide (d<5)=true):=decide_eq_true h;go_in;go_wp2;go_ret;exact⟨by rw[H.o];rfl,rfl⟩
 have H:Hid (decide (d<5)=false):=decide_eq_false h;go_in;go_wp2;go_ret;exact⟨by rw[H.o];rfl,rfl⟩
def qr{n:Nat}(h:n<5):gK.getD n 0=bw (n:Int) sp:=by
 have:n=0\/n=1\/n=2\/n=3\/n=4:=by omega
 rcases this with rfl|rfl|rfl|rfl|rfl <;> rfl
def xg{d:Int}(h:5<=d):bw d sp=sp:=by unfold bw;rw[if_neg o_,if_neg o_,if_neg o_,if_neg o_,if_neg o_]
def F6(C:IC)(d:Int):gV C.E d=4*(C.ns.length:Int)+4*d:=by show 4*((C.ns.length:Int)+d)=_;omega
def lG(C:IC)(I:C.Ok)(w:AT)(its:List It)(l:Int)(J:Gi C w its l)(d:Int)(Z:0<=d)(Ja:d<=1000000):Calls prog 243 #[pV C.P,V d] w λe w'=>e=rW (V (gV C.E d))/\w'=w:=by
 have Y:=I.nl;have X:Bo w C.P 1 (V (4*(C.ns.length:Int))):=J.es.oth 1 d_ d_;have O:IntKind.i64.wrap (4*d)=4*d:=by simp[IntKind.wrap,IntKind.bits,IntKind.signed];omega
 have U:IntKind.i64.wrap (4*(C.ns.length:Int)+4*d)=4*(C.ns.length:Int)+4*d:=by simp[IntKind.wrap,IntKind.bits,IntKind.signed];omega
 have H:Hid (gV C.E d=4*(C.ns.length:Int)+4*d):=F6 C d;generalize (C.ns.length:Int)=n at*;go_in;go_wp2;go_ret;exact⟨by rw[H.o];rfl,rfl⟩
def zJ(C:IC)(O:C.Ok)(w:AT)(its:List It)(l:Int)(U:Gi C w its l)(d:Int)(J:0<=d):Calls prog 246 #[V d] w λe w'=>e=rW (V (bw d 30))/\w'=w:=by
 obtain⟨n,rfl⟩:=Int.eq_ofNat_of_zero_le J;by_cases h:(n:Int)<5
 ·have I:=U.reg O n o_;have H:Hid (gK.getD n 0=bw (n:Int) 30):=qr o_;generalize gK.getD n 0=z at I H;go_in;go_wp2_with fail;refine(eu (n:Int) w).mono ?_;rintro e w1 ⟨rfl,rfl⟩;rw[decide_eq_true o_];go_wp2;go_ret;exact⟨by rw[<-H.o];rfl,rfl⟩
 have H:Hid (bw (n:Int) 30=30):=xg o_;go_in;go_wp2_with fail;refine(eu (n:Int) w).mono ?_;rintro e w1 ⟨rfl,rfl⟩;rw[decide_eq_false o_];go_wp2;go_ret;exact⟨by rw[H.o];rfl,rfl⟩
def JV(C:IC)(X:C.Ok)(w:AT)(its:List It)(l:Int)(Y:Gi C w its l)(d H:Int)(hi:its.length<=9000000)(hd:0<=d)(Jf:d<=1000000):
  Calls prog 247 #[pV C.P,V d,V H] w λe w'=>e=rW (V (bw d H))/\Wi C w its (readL C.E d H) l w':=by
 have⟨U,J⟩:=h2 X Y;obtain⟨n,rfl⟩:=Int.eq_ofNat_of_zero_le hd;by_cases h:(n:Int)<5
 ·have Z:=Y.reg X n o_;have I:Hid (gK.getD n 0=bw (n:Int) H):=qr o_;have O:Hid (readL C.E (n:Int) H=[]):=by show _=_;unfold readL;rw[if_neg o_]
  generalize gK.getD n 0=z at Z I;go_in;go_wp2_with fail;refine(eu (n:Int) w).mono ?_;rintro e w1 ⟨rfl,Ja⟩;rw[Ja,decide_eq_true o_];go_wp2;go_ret;exact⟨by rw[<-I.o];rfl,by rw[O.o];exact Wi.nil J⟩
 have I:Hid (bw (n:Int) H=H):=xg o_;have O:Hid (readL C.E (n:Int) H=[aw 10 H 2 0 (gV C.E (n:Int))]):=by show _=_;unfold readL;rw[if_pos o_]
 go_in;go_wp2_with fail;refine(eu (n:Int) w).mono ?_;rintro e w1 ⟨rfl,Ja⟩;rw[Ja,decide_eq_false o_];go_wp2_with fail;refine(lG C U.o w its l J.o (n:Int) o_ o_).mono ?_;rintro e w1 ⟨rfl,Ja⟩;rw[Ja];go_wp2_with fail;refine(sW C U.o w its (l) J.o H 2 (gV C.E (n:Int)) hi).mono ?_;rintro x Jd ⟨⟨Je,rfl⟩,Jb⟩;have Jc:=ah Jb;go_wp2;go_ret;exact⟨by rw[I.o];rfl,by rw[O.o];exact Jc⟩
def LO(C:IC)(O:C.Ok)(w:AT)(its:List It)(l:Int)(U:Gi C w its l)(d:Int)(Y:its.length<=9000000)(X:0<=d)(Jf:d<=1000000):
  Calls prog 225 #[pV C.P,V d] w λe w'=>(∃u,e=rW u)/\Wi C w its (writeL C.E d) l w':=by
 have⟨J,I⟩:=h2 O U;obtain⟨n,rfl⟩:=Int.eq_ofNat_of_zero_le X;by_cases h:(n:Int)<5
 ·have Z:=U.reg O n o_;have H:Hid (writeL C.E (n:Int)=[]):=by show _=_;unfold writeL;rw[if_neg o_]
  go_in;go_wp2_with fail;refine(eu (n:Int) w).mono ?_;rintro e w1 ⟨rfl,Jb⟩;rw[Jb,decide_eq_true o_];go_wp2_with fail;exact bodyPost_end (v:=.tuple #[]) (by simp[results,results225,go_sem]) rfl ⟨⟨_,rfl⟩,by rw[H.o];exact Wi.nil I⟩
 have H:Hid (writeL C.E (n:Int)=[aw 11 0 2 30 (gV C.E (n:Int))]):=by show _=_;unfold writeL;rw[if_pos o_]
 go_in;go_wp2_with fail;refine(eu (n:Int) w).mono ?_;rintro e w1 ⟨rfl,Jb⟩;rw[Jb,decide_eq_false o_];go_wp2_with fail;refine(lG C J.o w its l I.o (n:Int) o_ o_).mono ?_;rintro e w1 ⟨rfl,Jb⟩;rw[Jb];go_wp2_with fail;refine(jK C J.o w its (l) I.o 30 2 (gV C.E (n:Int)) Y).mono ?_;rintro x Jd ⟨⟨Je,rfl⟩,Jc⟩;have Ja:=ah Jc;go_wp2_with fail;exact bodyPost_end (v:=.tuple #[]) (by simp[results,results225,go_sem]) rfl ⟨⟨_,rfl⟩,(by first|(rw[H.o];exact Ja)|(rw[H.o];exact Ja)|exact Ja)⟩
def xh(C:IC)(U:C.Ok)(w:AT)(its:List It)(l:Int)(Y:Gi C w its l)(d:Int)(X:its.length<=9000000)(hd:0<=d)(Jf:d<=1000000):
  Calls prog 223 #[pV C.P,V d] w λe w'=>(∃u,e=rW u)/\Wi C w its (ey C.E d) l w':=by
 have⟨O,I⟩:=h2 U Y;obtain⟨n,rfl⟩:=Int.eq_ofNat_of_zero_le hd;by_cases h:(n:Int)<5
 ·have Z:=Y.reg U n o_;have J:Hid (gK.getD n 0=bw (n:Int) 30):=qr o_;have H:Hid (ey C.E (n:Int)=[aw 12 (bw (n:Int) 30) 10 0 0]):=by show _=_;unfold ey;rw[if_neg o_]
  generalize gK.getD n 0=z at Z J;go_in;go_wp2_with fail;refine(eu (n:Int) w).mono ?_;rintro e w1 ⟨rfl,Jc⟩;rw[Jc,decide_eq_true o_];go_wp2_with fail;refine(xe C O.o w its (l) I.o z 10 X).mono ?_;rintro x Jd ⟨⟨Je,rfl⟩,Jb⟩;have Ja:=ah Jb;go_wp2_with fail;exact bodyPost_end (v:=.tuple #[]) (by simp[results,results223,go_sem]) rfl ⟨⟨_,rfl⟩,(by first|(rw[H.o,<-J.o];exact Ja)|(rw[<-J.o];exact Ja)|exact Ja)⟩
 have H:Hid (ey C.E (n:Int)=[aw 11 0 2 10 (gV C.E (n:Int))]):=by show _=_;unfold ey;rw[if_pos o_]
 go_in;go_wp2_with fail;refine(eu (n:Int) w).mono ?_;rintro e w1 ⟨rfl,Jc⟩;rw[Jc,decide_eq_false o_];go_wp2_with fail;refine(lG C O.o w its l I.o (n:Int) o_ o_).mono ?_;rintro e w1 ⟨rfl,Jc⟩;rw[Jc];go_wp2_with fail;refine(jK C O.o w its (l) I.o 10 2 (gV C.E (n:Int)) X).mono ?_;rintro x Jd ⟨⟨Je,rfl⟩,Jb⟩;have Ja:=ah Jb;go_wp2_with fail;exact bodyPost_end (v:=.tuple #[]) (by simp[results,results223,go_sem]) rfl ⟨⟨_,rfl⟩,(by first|(rw[H.o];exact Ja)|(rw[H.o];exact Ja)|exact Ja)⟩
end
def nY(v z:Int)(J:IntKind.i32.wrap v=z)(I: -2147483648<=z/\z<=2147483647)(w:AT):Calls prog 64 #[V v] w λe w'=>e=rW (V z)/\w'=w:=by
 have H:IntKind.i64.wrap z=z:=by simp[IntKind.wrap,IntKind.bits,IntKind.signed];omega
 go_in;go_wp2;go_ret;exact⟨i_,rfl⟩
def nZ(C:IC)(hC:C.Ok)(w:AT)(its:List It)(l:Int)(hG:Gi C w its l)(r v:Int)(hi:its.length<=8999999)(hv: -2147483648<=v/\v<=2147483647):
  Calls prog 138 #[pV C.P,V r,V v] w λe w'=>(∃u,e=rW u)/\Wi C w its (cK r v) l w':=by
 have⟨Y,HG⟩:=h2 hC hG;clear hC hG;by_cases h1: -2048<=v/\v<=2047
 ·have O:Hid (cK r v=[aw 12 r 0 0 v]):=by show _=_;unfold cK;rw[if_pos h1]
  have Jo:=h1.1;have Jn:=h1.2;go_in;go_wp2_with fail;refine(bF C Y.o w its l HG.o 12 r 0 v o_).mono ?_;rintro x Jd ⟨⟨u,rfl⟩,X⟩;have J:=ah X;go_wp2_with fail;exact bodyPost_ret (v:=.tuple #[]) (by simp[results,results138,go_sem]) rfl ⟨⟨_,rfl⟩,by rw[O.o];exact J⟩
 have⟨I,Jf⟩:=q_ ((v+2048) / 4096);have hL:cK r v=[aw 1 r 0 0 (I%1048576)]++(if v=I*4096 then[]else[aw 12 r r 0 (v-I*4096)]):=by unfold cK;rw[if_neg h1,Jf]
 have O:=ah hL;have Jr: -600000<=I/\I<=600000:=o_;have k0:IntKind.i64.wrap (v+2048)=v+2048:=by simp[IntKind.wrap,IntKind.bits,IntKind.signed];omega
 have K2:Hid (bits BinOp.and IntKind.i64 ((v+2048) / 4096) 1048575=I%1048576):=by show _=_;rw[Jf];exact Lc _
 have⟨H,Jg⟩:=q_ (I%1048576);have Jq:0<=H/\H<=1048575:=o_;have⟨Ja,Jh⟩:=q_ (v-I*4096);have Js: -2048<=Ja/\Ja<=2047:=o_;have k3:IntKind.i32.wrap (v-H*4096)=Ja:=by simp[IntKind.wrap,IntKind.bits,IntKind.signed];omega
 have k4:IntKind.i64.wrap (H*4096)=H*4096:=by simp[IntKind.wrap,IntKind.bits,IntKind.signed];omega
 have k5:IntKind.i64.wrap (v-H*4096)=v-H*4096:=by simp[IntKind.wrap,IntKind.bits,IntKind.signed];omega
 rw[<-Jg]at O K2;rw[<-Jh]at O;have Z:Hid (v=I*4096↔Ja=0):=by show _↔_;omega
 have Jj:v < -2048\/2047<v:=o_;have HP:=ah (F5 C Y.o w its l HG.o 1 r 0 0 H o_);clear hL Jf Jg Jh h1;have Jk:∀W:Prop,W->W:=λ_ h=>h;rcases Jj with hn|hn
 ·go_in;go_wp2_with fail;rw[K2.o];refine HP.o.mono ?_;rintro x Jd ⟨⟨u,rfl⟩,X⟩;have J:=ah X;go_wp2_with fail;refine(nY (v-H*4096) Ja k3 o_ Jd).mono ?_;rintro x Jl ⟨rfl,Jc⟩;rw[Jc];clear Jc;by_cases hz:Ja=0
  ·have U:Hid (cK r v=[aw 1 r 0 0 H]):=(by show _=_;rw[O.o,if_pos (Z.o.2 hz),append_nil]);subst hz;go_wp2_with fail;exact bodyPost_end (v:=.tuple #[]) (by simp[results,results138,go_sem]) rfl ⟨⟨_,rfl⟩,by rw[U.o];exact J⟩
  have U:Hid (cK r v=[aw 1 r 0 0 H]++[aw 12 r r 0 Ja]):=(by show _=_;rw[O.o,if_neg (λe=>hz (Z.o.1 e))]);have Jm:(Ja == 0)=false:=(D4 hz);go_wp2_with fail;refine(bF C Y.o _ _ _ J.o.gs 12 r r Ja Do).mono ?_;rintro x Ji ⟨⟨u3,rfl⟩,Jb⟩;have Je:=ah (J.o.trans Jb);go_wp2_with fail;exact bodyPost_end (v:=.tuple #[]) (by simp[results,results138,go_sem]) rfl ⟨⟨_,rfl⟩,by rw[U.o];exact Je⟩
 have Jp: -2048<=v:=o_;go_in;go_wp2_with fail;rw[K2.o];refine HP.o.mono ?_;rintro x Jd ⟨⟨u,rfl⟩,X⟩;have J:=ah X;clear X HP;go_wp2_with fail;refine(nY (v-H*4096) Ja k3 o_ Jd).mono ?_;rintro x Jl ⟨rfl,Jc⟩;rw[Jc];by_cases hz:Ja=0
 ·have U:Hid (cK r v=[aw 1 r 0 0 H]):=(by show _=_;rw[O.o,if_pos (Z.o.2 hz),append_nil]);subst hz;go_wp2_with fail;exact bodyPost_end (v:=.tuple #[]) (by simp[results,results138,go_sem]) rfl ⟨⟨_,rfl⟩,by rw[U.o];exact J⟩
 have U:Hid (cK r v=[aw 1 r 0 0 H]++[aw 12 r r 0 Ja]):=(by show _=_;rw[O.o,if_neg (λe=>hz (Z.o.1 e))]);have Jm:(Ja == 0)=false:=(D4 hz);go_wp2_with fail;refine(bF C Y.o _ _ _ J.o.gs 12 r r Ja Do).mono ?_;rintro x Ji ⟨⟨u3,rfl⟩,Jb⟩;have Je:=ah (J.o.trans Jb);clear Jb;go_wp2_with fail;exact bodyPost_end (v:=.tuple #[]) (by simp[results,results138,go_sem]) rfl ⟨⟨_,rfl⟩,by rw[U.o];exact Je⟩
def I6(C:IC)(O:C.Ok)(w:AT)(its:List It)(l:Int)(U:Gi C w its l)(Ja:Int)(X:its.length<=8999990)(J: -2048<=Ja/\Ja<=2047):
  Calls prog 85 #[pV C.P,V Ja] w λe w'=>(∃u,e=rW u)/\Wi C w its ([aw 12 17 0 0 Ja]++[aw 34 0 0 0 0]) l w':=by
 have⟨H,I⟩:=h2 O U;have Jg:Hid (cK 17 Ja=[aw 12 17 0 0 Ja]):=by show _=_;unfold cK;rw[if_pos J]
 go_in;go_wp2_with fail;refine(nZ C H.o w its (l) I.o 17 Ja o_ o_).mono ?_;rintro x w_1 ⟨⟨Ji,rfl⟩,Jb⟩;have Je:Wi C w its [aw 12 17 0 0 Ja] (l) w_1:=by rw[<-Jg.o];exact Jb
 have Jc:=ah Je;go_wp2_with fail;refine(F5 C H.o _ _ _ Jc.o.gs 34 0 0 0 0 (by simp only[l_a,l_c,l_n]at*;omega)).mono ?_;rintro x Jj ⟨⟨Jh,rfl⟩,Jd⟩;have Jf:=ah (Jc.o.trans Jd);go_wp2_with fail;exact bodyPost_end (v:=.tuple #[]) (by simp[results,results85,go_sem]) rfl ⟨⟨_,rfl⟩,Jf⟩
def I7(C:IC)(J:C.Ok)(w:AT)(its:List It)(l:Int)(O:Gi C w its l)(op r a b:Int)(X:its.length<=8999990)(Y:0<=op)(Jj:op<=15):
  Calls prog 249 #[pV C.P,V op,V r,V a,V b] w λe w'=>(∃u,e=rW u)/\Wi C w its (jX op r a b) l w':=by
 have⟨H,I⟩:=h2 J O;have Ji:op=0\/op=1\/op=2\/op=3\/op=4\/op=5\/op=6\/op=7\/op=8\/op=9\/op=10\/op=11\/op=12\/op=13\/op=14\/op=15:=o_;rcases Ji with rfl|rfl|rfl|rfl|rfl|rfl|rfl|rfl|rfl|rfl|rfl|rfl|rfl|rfl|rfl|rfl
 ·have U:Bo w 7 0 (V 31):=O.bin J 0 d_;go_in;go_wp2_with fail;refine(bO C H.o w its (l) I.o 31 r a b o_).mono ?_;rintro x Jc ⟨⟨Je,rfl⟩,Jb⟩;have Ja:=ah Jb;go_wp2_with fail;exact bodyPost_end (v:=.tuple #[]) (by simp[results,results249,go_sem]) rfl ⟨⟨_,rfl⟩,Ja⟩
 ·have U:Bo w 7 1 (V 32):=O.bin J 1 d_;go_in;go_wp2_with fail;refine(bO C H.o w its (l) I.o 32 r a b o_).mono ?_;rintro x Jc ⟨⟨Je,rfl⟩,Jb⟩;have Ja:=ah Jb;go_wp2_with fail;exact bodyPost_end (v:=.tuple #[]) (by simp[results,results249,go_sem]) rfl ⟨⟨_,rfl⟩,Ja⟩
 ·have U:Bo w 7 2 (V 33):=O.bin J 2 d_;go_in;go_wp2_with fail;refine(bO C H.o w its (l) I.o 33 r a b o_).mono ?_;rintro x Jc ⟨⟨Je,rfl⟩,Jb⟩;have Ja:=ah Jb;go_wp2_with fail;exact bodyPost_end (v:=.tuple #[]) (by simp[results,results249,go_sem]) rfl ⟨⟨_,rfl⟩,Ja⟩
 ·have U:Bo w 7 3 (V 21):=O.bin J 3 d_;go_in;go_wp2_with fail;refine(bO C H.o w its (l) I.o 21 r a b o_).mono ?_;rintro x Jc ⟨⟨Je,rfl⟩,Jb⟩;have Ja:=ah Jb;go_wp2_with fail;exact bodyPost_end (v:=.tuple #[]) (by simp[results,results249,go_sem]) rfl ⟨⟨_,rfl⟩,Ja⟩
 ·have U:Bo w 7 4 (V 22):=O.bin J 4 d_;go_in;go_wp2_with fail;refine(bO C H.o w its (l) I.o 22 r a b o_).mono ?_;rintro x Jc ⟨⟨Je,rfl⟩,Jb⟩;have Ja:=ah Jb;go_wp2_with fail;exact bodyPost_end (v:=.tuple #[]) (by simp[results,results249,go_sem]) rfl ⟨⟨_,rfl⟩,Ja⟩
 ·have U:Bo w 7 5 (V 23):=O.bin J 5 d_;go_in;go_wp2_with fail;refine(bO C H.o w its (l) I.o 23 r a b o_).mono ?_;rintro x Jc ⟨⟨Je,rfl⟩,Jb⟩;have Ja:=ah Jb;go_wp2_with fail;exact bodyPost_end (v:=.tuple #[]) (by simp[results,results249,go_sem]) rfl ⟨⟨_,rfl⟩,Ja⟩
 ·have U:Bo w 7 6 (V 28):=O.bin J 6 d_;go_in;go_wp2_with fail;refine(bO C H.o w its (l) I.o 28 r a b o_).mono ?_;rintro x Jc ⟨⟨Je,rfl⟩,Jb⟩;have Ja:=ah Jb;go_wp2_with fail;exact bodyPost_end (v:=.tuple #[]) (by simp[results,results249,go_sem]) rfl ⟨⟨_,rfl⟩,Ja⟩
 ·go_in;go_wp2_with fail;refine(bO C H.o w its (l) I.o 24 r a b o_).mono ?_;rintro x Jc ⟨⟨Je,rfl⟩,Jb⟩;have Ja:=ah Jb;go_wp2_with fail;exact bodyPost_end (v:=.tuple #[]) (by simp[results,results249,go_sem]) rfl ⟨⟨_,rfl⟩,Ja⟩
 ·go_in;go_wp2_with fail;refine(bO C H.o w its (l) I.o 24 r b a o_).mono ?_;rintro x Jc ⟨⟨Je,rfl⟩,Jb⟩;have Ja:=ah Jb;go_wp2_with fail;refine(bF C H.o _ _ _ Ja.o.gs 15 r r 1 (by simp only[l_a,l_c,l_n]at*;omega)).mono ?_;rintro x Jh ⟨⟨Jg,rfl⟩,Jd⟩;have Jf:=ah (Ja.o.trans Jd);go_wp2_with fail;exact bodyPost_end (v:=.tuple #[]) (by simp[results,results249,go_sem]) rfl ⟨⟨_,rfl⟩,Jf⟩
 ·go_in;go_wp2_with fail;refine(bO C H.o w its (l) I.o 24 r b a o_).mono ?_;rintro x Jc ⟨⟨Je,rfl⟩,Jb⟩;have Ja:=ah Jb;go_wp2_with fail;exact bodyPost_end (v:=.tuple #[]) (by simp[results,results249,go_sem]) rfl ⟨⟨_,rfl⟩,Ja⟩
 ·go_in;go_wp2_with fail;refine(bO C H.o w its (l) I.o 24 r a b o_).mono ?_;rintro x Jc ⟨⟨Je,rfl⟩,Jb⟩;have Ja:=ah Jb;go_wp2_with fail;refine(bF C H.o _ _ _ Ja.o.gs 15 r r 1 (by simp only[l_a,l_c,l_n]at*;omega)).mono ?_;rintro x Jh ⟨⟨Jg,rfl⟩,Jd⟩;have Jf:=ah (Ja.o.trans Jd);go_wp2_with fail;exact bodyPost_end (v:=.tuple #[]) (by simp[results,results249,go_sem]) rfl ⟨⟨_,rfl⟩,Jf⟩
 ·go_in;go_wp2_with fail;refine(bO C H.o w its (l) I.o 22 r a b o_).mono ?_;rintro x Jc ⟨⟨Je,rfl⟩,Jb⟩;have Ja:=ah Jb;go_wp2_with fail;refine(bF C H.o _ _ _ Ja.o.gs 14 r r 1 (by simp only[l_a,l_c,l_n]at*;omega)).mono ?_;rintro x Jh ⟨⟨Jg,rfl⟩,Jd⟩;have Jf:=ah (Ja.o.trans Jd);go_wp2_with fail;exact bodyPost_end (v:=.tuple #[]) (by simp[results,results249,go_sem]) rfl ⟨⟨_,rfl⟩,Jf⟩
 ·go_in;go_wp2_with fail;refine(bO C H.o w its (l) I.o 22 r a b o_).mono ?_;rintro x Jc ⟨⟨Je,rfl⟩,Jb⟩;have Ja:=ah Jb;go_wp2_with fail;refine(bO C H.o _ _ _ Ja.o.gs 25 r 0 r (by simp only[l_a,l_c,l_n]at*;omega)).mono ?_;rintro x Jh ⟨⟨Jg,rfl⟩,Jd⟩;have Jf:=ah (Ja.o.trans Jd);go_wp2_with fail;exact bodyPost_end (v:=.tuple #[]) (by simp[results,results249,go_sem]) rfl ⟨⟨_,rfl⟩,Jf⟩
 ·have U:Bo w 7 13 (V 30):=O.bin J 13 d_;go_in;go_wp2_with fail;refine(bO C H.o w its (l) I.o 30 r a b o_).mono ?_;rintro x Jc ⟨⟨Je,rfl⟩,Jb⟩;have Ja:=ah Jb;go_wp2_with fail;exact bodyPost_end (v:=.tuple #[]) (by simp[results,results249,go_sem]) rfl ⟨⟨_,rfl⟩,Ja⟩
 ·have U:Bo w 7 14 (V 26):=O.bin J 14 d_;go_in;go_wp2_with fail;refine(bO C H.o w its (l) I.o 26 r a b o_).mono ?_;rintro x Jc ⟨⟨Je,rfl⟩,Jb⟩;have Ja:=ah Jb;go_wp2_with fail;exact bodyPost_end (v:=.tuple #[]) (by simp[results,results249,go_sem]) rfl ⟨⟨_,rfl⟩,Ja⟩
 have U:Bo w 7 15 (V 29):=O.bin J 15 d_;go_in;go_wp2_with fail;refine(bO C H.o w its (l) I.o 29 r a b o_).mono ?_;rintro x Jc ⟨⟨Je,rfl⟩,Jb⟩;have Ja:=ah Jb;go_wp2_with fail;exact bodyPost_end (v:=.tuple #[]) (by simp[results,results249,go_sem]) rfl ⟨⟨_,rfl⟩,Ja⟩
section
variable{q P:Nat}{w w':AT}{its:List It}
def CY(W:AT)(v:BY):(Instr.typeAssert (.iface 176 v) 55 176 true).run prog W=.ok (.tuple #[v,.bool true]) W:=by kernel_rfl
def F7(W:AT)(u:IN)(v:BY)(h:u≠176):(Instr.typeAssert (.iface u v) 55 176 true).run prog W=.ok (.tuple #[.agg #[],.bool false]) W:=by have e:(Instr.typeAssert (.iface u v) 55 176 true).run prog W=(if u=176 then(pure (Value.tuple #[v,.bool true]):Sem BY)else(do pure (Value.tuple #[<-zeroValue 176,.bool false]))).run prog W:=k_;rw[e,if_neg h];show _=_;kernel_rfl
def oV(H:Bl w w')(h:P<w.heap.size):ow q w' P=ow q w P:=by unfold ow;rw[H.cell (p:=⟨P,q,none⟩) h]
def Em.rlt5{J n:Nat}{c:Nat->BY}(h:Em J q n P w its c){k:Nat}(H:ow q w P=some k):P<k/\k<w.heap.size:=by have⟨v,I,h2⟩:=h.row;unfold ow at H;rw[I]at H;have:=ownsRow.lt h2 k H;omega
def Gi.box{C:IC}{l:Int}(H:Gi C w its l)(o:Obj){j:Nat}{v:BY}(O:(w.alloc o).cell? ⟨w.heap.size,j,none⟩=some v)(h:Wq 5 C.P (w.alloc o) w'):w'.cell? ⟨w.heap.size,j,none⟩=some v:=by have I:=H.es.lt;have J:Bl w (w.alloc o):=r_.alloc n_ o;refine h.cell o_ (λe=>?_) O;rw[oV J I]at e;have:=H.es.rlt5 e.symm;omega
def jN(C:IC)(v:BY)(g:tD)(k:Nat):Prop:=∀(w:AT) (its:List It) (l d:Int),Gi C w its l->0<=d->d+7*k<=1000000->0<=l->l+k<=100000000->its.length+24*k<=8000000->Calls prog 204 #[pV C.P,v,V d] w λx w'=>(∃u,x=rW u)/\Wi C w its (g d l).1 (g d l).2 w'
def N7(C:IC)(v:BY)(g:tD)(k:Nat):Prop:=∀(w:AT) (its:List It) (l d:Int),Gi C w its l->0<=d->d+7*k<=1000000->0<=l->l+k<=100000000->its.length+24*k<=8000000->Calls prog 224 #[pV C.P,v,V d] w λx w'=>(∃u,x=rW u)/\Wi C w its (g d l).1 (g d l).2 w'/\(g d l).1.length<=24*k-1
end
def F8(C:IC)(Y:C.Ok)(t:IN)(y:BY)(g:tD)(k:Nat)(Z:t≠173)(h2:t≠176)(hV:N7 C (.iface t y) g k)(hk:1<=k):jN C (.iface t y) (λd l=>((g d l).1++writeL C.E d,(g d l).2)) k:=by intro w Ja l d O J Jf Jc Jh Jd;have X:=ah Y;have U:=ah (hV w Ja l d O J Jf Jc Jh Jd);have y1:=λW v=>d8 W t v Z;have y2:=λW v=>F7 W t v h2;go_in;go_wp2_with fail;refine U.o.mono ?_;rintro x Jg ⟨⟨u,rfl⟩,I,Ji⟩;have H:=ah I;go_wp2_with fail;refine(LO C X.o Jg (Ja++(g d l).1) (g d l).2 H.o.gs d (by simp only[l_a];omega) o_ o_).mono ?_;rintro x Jj ⟨⟨u2,rfl⟩,Je⟩;have Jb:=ah (H.o.trans Je);go_wp2_with fail;exact bodyPost_end (v:=.tuple #[]) (by simp[results,results204,go_sem]) rfl ⟨⟨_,rfl⟩,Jb⟩
def I8(C:IC)(Z:C.Ok):jN C (.iface 176 (.agg #[])) (λd l=>([aw 12 17 0 0 2,aw 34 0 0 0 0]++ey C.E d,l)) 1:=by intro w Ja l d Y hd Jg Je Ji Jf;have O:Hid C.Ok:=Z;have I:Hid (Gi C w Ja l):=Y;have y1:=λW v=>d8 W 176 v d_;have y2:=CY;have J:∀o,Bl w (w.alloc o):=λo=>r_.alloc n_ o;have X:Hid (∀o,Calls prog 85 #[pV C.P,V 2] (w.alloc o) λx w'=>(∃u,x=rW u)/\Wi C w Ja ([aw 12 17 0 0 2]++[aw 34 0 0 0 0]) l w'):=λo=>(I6 C O.o (w.alloc o) Ja l (I.o.below (J o)) 2 o_ o_).mono (λ_ _ h=>⟨h.1,Wi.preB I.o (J o) h.2⟩);go_in;go_wp2_with fail;refine(X.o _).mono ?_;rintro x Jd ⟨⟨u,rfl⟩,U⟩;have H:=ah U;go_wp2_with fail;refine(xh C O.o Jd _ l H.o.gs d (by simp only[l_a,l_c,l_n];omega) o_ o_).mono ?_;rintro x Jh ⟨⟨u2,rfl⟩,Jc⟩;have Jb:=ah (H.o.trans Jc);go_wp2_with fail;exact bodyPost_end (v:=.tuple #[]) (by simp[results,results204,go_sem]) rfl ⟨⟨_,rfl⟩,Jb⟩
theorem r_l(E:dE)(d:Int):(readL E d 30).length<=1/\(readL E (d+1) 31).length<=1/\(writeL E d).length<=1/\(ey E d).length=1:=⟨rJ E d 30,rJ E (d+1) 31,xY E d,uX E d⟩
theorem I9(C:IC)(hC:C.Ok)(op:Int)(O H:TypeId)(J I:Value)(g0 Y:tD)(k0 k1:Nat)(Xq:jN C (.iface O J) g0 k0)(Xp:CB k0 g0)(Xt:jN C (.iface H I) Y k1)(Xs:CB k1 Y)(h0:0<=op)(Xr:op<=15):N7 C (.iface 104 (.agg #[V op,.iface O J,.iface H I])) (λd l=>((g0 d l).1++(Y (d+1) (g0 d l).2).1++readL C.E d 30++readL C.E (d+1) 31++jX op (bw d 30) (bw d 30) (bw (d+1) 31),(Y (d+1) (g0 d l).2).2)) (k0+k1+1):=by
 intro w Ja l d hG hd Xz Xu Xx Xy;have⟨Z,U⟩:=h2 hC hG;have⟨W2,Jk⟩:=q_ (w.alloc (.cells #[V op,.iface O J,.iface H I] 104));have J_:Bl w W2:=by rw[Jk];exact r_.alloc n_ _
 have Xi:Hid (Gi C W2 Ja l):=U.out.below J_;have Xf:Hid (∀ {new l' w'},Wi C W2 Ja new l' w'->Wi C w Ja new l' w'):=λh=>h.pre (Wq.below U.out.es.lt J_);have Jy:Hid (∀w',Wq 5 C.P W2 w'->(w'.cell? ⟨w.heap.size,0,none⟩=some (V op))/\(w'.cell? ⟨w.heap.size,2,none⟩=some (.iface H I))):=λw' h=>⟨U.out.box (.cells #[V op,.iface O J,.iface H I] 104) i_ (by rw[<-Jk];exact h),U.out.box (.cells #[V op,.iface O J,.iface H I] 104) i_ (by rw[<-Jk];exact h)⟩;have Xl:=ah Jk;have Xa:=λW v=>aY W 104 v d_;have Jv:=λW v=>fg W 104 v d_;have Jl:=λW v=>bE W 104 v d_;have Xj:=λW v=>bu W 104 v d_;have Xc:=bQ;have⟨Xb,Ju,Xd⟩:=Xp (d) (l);obtain⟨c0,X,Jn⟩:∃c m,g0 (d) (l)=(c,m):=⟨_,_,rfl⟩;rw[Jn]at Xb Ju Xd;simp only at Xb Ju Xd;have Xo:Hid (∀(W:World) (its':List It),Gi C W its' (l)->its'.length+24*k0<=8000000->Calls prog 204 #[pV C.P,.iface O J,V (d)] W λx w'=>(∃u,x=rW u)/\Wi C W its' c0 X w'):=λW its' hg hln=>by
  have:=Xq W its' (l) (d) hg o_ o_ o_ o_ hln
  rw[Jn]at this;exact this
 have⟨Jz,Jw,Jx⟩:=Xs (d+1) (X);obtain⟨c1,m1,Jt⟩:∃c m,Y (d+1) (X)=(c,m):=⟨_,_,rfl⟩;rw[Jt]at Jz Jw Jx;simp only at Jz Jw Jx;have Xg:Hid (∀(W:World) (its':List It),Gi C W its' (X)->its'.length+24*k1<=8000000->Calls prog 204 #[pV C.P,.iface H I,V (d+1)] W λx w'=>(∃u,x=rW u)/\Wi C W its' c1 m1 w'):=λW its' hg hln=>by
  have:=Xt W its' (X) (d+1) hg o_ o_ o_ o_ hln
  rw[Jt]at this;exact this
 have X_:IntKind.i64.wrap (d+1)=d+1:=by simp[IntKind.wrap,IntKind.bits,IntKind.signed];omega
 go_in;go_wp2_with fail;refine(zJ C Z.out w Ja l U.out d hd).mono ?_;rintro x w1 ⟨rfl,Xm⟩;rw[Xm];go_wp2_with fail;rw[<-Xl.out];refine(Xo.out W2 Ja Xi.out (by have⟨Ji,Jg,Jh,Jj⟩:=r_l C.E d;have Jf:=gW op (bw d 30) (bw d 30) (bw (d+1) 31);(try simp only[l_a,l_c,l_n]);omega)).mono ?_;rintro x Xn ⟨⟨Xv,rfl⟩,Jm⟩;have Jb:=ah Jm;have⟨e0,e2⟩:=Jy.out Xn Jb.out.wq;go_wp2_with fail;refine(Xg.out _ _ Jb.out.gs (by have⟨Ji,Jg,Jh,Jj⟩:=r_l C.E d;have Jf:=gW op (bw d 30) (bw d 30) (bw (d+1) 31);(try simp only[l_a,l_c,l_n]);omega)).mono ?_;rintro x Xh ⟨⟨Ya,rfl⟩,Jq⟩;have Je:Hid (Wi C W2 Ja (c0++c1) (m1) Xh):=Jb.out.trans Jq;try clear e2;go_wp2_with fail;refine(JV C Z.out _ _ _ Je.out.gs d 30 (by have⟨Ji,Jg,Jh,Jj⟩:=r_l C.E d;have Jf:=gW op (bw d 30) (bw d 30) (bw (d+1) 31);(try simp only[l_a,l_c,l_n]);omega) o_ o_).mono ?_;rintro x Xe ⟨rfl,Js⟩;have Jd:Hid (Wi C W2 Ja (c0++c1++readL C.E d 30) (m1) Xe):=Je.out.trans Js;go_wp2_with fail;refine(JV C Z.out _ _ _ Jd.out.gs (d+1) 31 (by have⟨Ji,Jg,Jh,Jj⟩:=r_l C.E d;have Jf:=gW op (bw d 30) (bw d 30) (bw (d+1) 31);(try simp only[l_a,l_c,l_n]);omega) o_ o_).mono ?_;rintro x Xk ⟨rfl,Jo⟩;have Jc:=ah (Jd.out.trans Jo);have⟨e0,e2⟩:=Jy.out Xk Jc.out.wq;go_wp2_with fail;refine(I7 C Z.out _ _ _ Jc.out.gs op (bw d 30) (bw d 30) (bw (d+1) 31) (by have⟨Ji,Jg,Jh,Jj⟩:=r_l C.E d;have Jf:=gW op (bw d 30) (bw d 30) (bw (d+1) 31);(try simp only[l_a,l_c,l_n]);omega) h0 Xr).mono ?_;rintro x Xw ⟨⟨Yb,rfl⟩,Jp⟩;have Jr:=ah (Jc.out.trans Jp);try clear e0;go_wp2_with fail;have HZ:=Xf.out Jr;refine bodyPost_end (v:=.tuple #[]) (by simp[results,results224,go_sem]) rfl ⟨⟨_,rfl⟩,?_⟩;simp only[Jn,Jt];try simp only[List.append_assoc,List.cons_append,List.nil_append]at HZ⊢
 exact⟨HZ,by have⟨Ji,Jg,Jh,Jj⟩:=r_l C.E d;have Jf:=gW op (bw d 30) (bw d 30) (bw (d+1) 31);simp only[l_a,l_c,l_n];omega⟩
def xi(C:IC)(v:BY)(r:List Nd):Prop:=∃g,EA (lM C.E) r g/\CB r.length g/\jN C v g r.length
def LP(C:IC)(n:Nd):Prop:=aD n=true/\(n.kd=5\/n.kd=7)
def jN.congr{C:IC}{v:BY}{g h:tD}{k:Nat}(H:jN C v g k)(e:∀d l,h d l=g d l):jN C v h k:=by
 have:h=g:=by funext d l;exact e d l
 rw[this];exact H
def xi.leaf{C:IC}{v:BY}{n:Nd}(H:aD n=true)(h:arity n=0)(I:jN C v (lM C.E n 0 (λ_ _ l=>([],l))) 1):xi C v [n]:=by
 refine⟨_,?_,?_,I⟩
 have:=EA.node (tE C.E) H (A:=0) h (F:=λ_=>[]) (G:=λ_ _ l=>([],l)) (λi hi=>absurd hi (Nat.not_lt_zero _))
 simpa[joinF]using this
 have:=xZ C.E (F:=λ_=>[]) (G:=λ_ _ l=>([],l)) H (A:=0) h (λi hi=>absurd hi (Nat.not_lt_zero _))
 simpa[joinF]using this
def xi.two{C:IC}{v:BY}{r t:List Nd}{n:Nd}{g h:tD}(J:aD n=true)(I:arity n=2)(hg:EA (lM C.E) r g)(X:EA (lM C.E) t h)(Y:CB r.length g)(Z:CB t.length h)(U:jN C v (lM C.E n 2 (λi=>if i=0 then g else h)) (r.length+t.length+1)):xi C v (r++t++[n]):=by
 have O:=EA.node (tE C.E) J (A:=2) I (F:=λi=>if i=0 then r else t) (G:=λi=>if i=0 then g else h) (λi hi=>by by_cases h0:i=0 <;> simp only[h0,if_true,if_false] <;> assumption);have h2:=xZ C.E (F:=λi=>if i=0 then r else t) (G:=λi=>if i=0 then g else h) J (A:=2) I (λi hi=>by by_cases h0:i=0 <;> simp only[h0,if_true,if_false] <;> assumption);rw[mH]at h2;have H:(r++t++[n]).length=r.length+t.length+1:=by simp;omega
 exact⟨_,by simpa[joinF]using O,by rw[H];simpa using h2,by rw[H];exact U⟩
theorem CZ(C:IC)(J:C.Ok){v:BY}{r:List Nd}(h:Tv C.w0 C.S v r)(H:∀n∈r,LP C n):xi C v r:=by
 induction h using Tv_i with
 | num v=>exact absurd (H ⟨1,v,⟨#[]⟩⟩ i_).2 i_
 | var s=>exact absurd (H ⟨2,0,s⟩ i_).2 i_
 | inn=>obtain⟨I,-⟩:=H ⟨5,0,⟨#[]⟩⟩ i_;exact .leaf I d_ ((I8 C J).congr λd l=>by simp[lM])
 | index s x r hx ih=>exact absurd (H ⟨3,0,s⟩ i_).2 i_
 | un op x r hx ih=>exact absurd (H ⟨6,op,⟨#[]⟩⟩ i_).2 i_
 | bin op x y r t hx hy ih1 ih2=>
  obtain⟨tx,x,rfl⟩:=hx.isI;obtain⟨ty,y,rfl⟩:=hy.isI;have⟨g,Y,O,Z⟩:=ih1 (λn hn=>H n (by simp[hn]));have⟨h,m1,X,m3⟩:=ih2 (λn hn=>H n (by simp[hn]));obtain⟨I,-⟩:=H ⟨7,op,⟨#[]⟩⟩ i_;have U:0<=op/\op<=15:=by simp[aD]at I;omega
  refine .two I rfl Y m1 O X ((F8 C J _ _ _ _ d_ d_ (I9 C J op tx ty x y g h r.length t.length Z O m3 X U.1 U.2) o_).congr λd l=>?_);simp[lM]
 | and x y r t hx hy ih1 ih2=>exact absurd (H ⟨8,0,⟨#[]⟩⟩ i_).2 i_
 | or x y r t hx hy ih1 ih2=>exact absurd (H ⟨9,0,⟨#[]⟩⟩ i_).2 i_
 | call s ar A vs F ha hv ih=>exact absurd (H ⟨4,A,s⟩ i_).2 i_
def zK(C:IC)(I:C.Ok){v:BY}{r:List Nd}(h:Tv C.w0 C.S v r)(J:∀n∈r,LP C n):CB r.length (bG C.E r)/\jN C v (bG C.E r) r.length:=by have⟨g,H,h2,h3⟩:=CZ C I h J;unfold bG;rw[H.eq];exact⟨h2,h3⟩
theorem C_(I:TypeId)(H:Value)(w:World):Calls prog 340 #[.agg #[.iface I H]] w λe w'=>e=rW (.slice (some ⟨w.heap.size+1,0,none⟩) 1 1)/\Below w.heap.size w w'/\w'.cell? ⟨w.heap.size+1,0,none⟩=some (.iface I H):=by go_in;go_wp2;go_ret;exact⟨i_,(aq _ _).alloc i_ _,i_⟩
def uA(C:IC)(hC:C.Ok)(t0:IN)(y0:BY)(g0:tD)(k0:Nat)(hx0:jN C (.iface t0 y0) g0 k0)(hb0:CB k0 g0)(hk0:k0<=2000) (w:AT)(its:List It)(l:Int)(hG:Gi C w its l)(hl0:0<=l)(hl2:l+2*(k0+1:Nat)<=100000000)(hil:its.length+24*(k0+1)<=8000000):
  Calls prog 186 #[pV C.P,.iface 292 (.agg #[.iface t0 y0])] w λx w'=>(∃u,x=rW u)/\Wi C w its ((g0 0 l).1++[aw 12 10 5 0 0,aW 4 C.en]) ((g0 0 l).2) w':=by
 have HC:=ah hC;have HG:=ah hG;have⟨q0a,q0b,q0c⟩:=hb0 (0) (l);obtain⟨c0,m0,hG0⟩:∃c m,g0 (0) (l)=(c,m):=⟨_,_,rfl⟩;rw[hG0]at q0a q0b q0c;simp only at q0a q0b q0c;have HC0:Hid (∀(W:AT) (its':List It),Gi C W its' (l)->its'.length+24*k0<=8000000->Calls prog 204 #[pV C.P,.iface t0 y0,V (0)] W λx w'=>(∃u,x=rW u)/\Wi C W its' c0 m0 w'):=λW its' hg hln=>by
  have:=hx0 W its' (l) (0) hg o_ o_ o_ o_ hln
  rw[hG0]at this;exact this
 have HM:∀W:AT,(method 541 292 (.agg #[.iface t0 y0]) "loop.example/s01725/impl.expressions").run prog W=.ok (340,.agg #[.iface t0 y0]) W:=λW=>by kernel_rfl
 have y_decl:=λW v=>d9 W 292 v d_
 have y_set:=λW v=>f_ W 292 v d_
 have y_store:=λW v=>fh W 292 v d_
 have y_return:=iU;go_in;go_wp2_with fail;refine(C_ t0 y0 w).mono ?_;rintro x W2 ⟨rfl,hb2,hce⟩;have HG2:Hid (Gi C W2 its l):=HG.o.below hb2;have HWw:Hid (∀ {new l' w'},Wi C W2 its new l' w'->Wi C w its new l' w'):=λh=>h.pre (Wq.below HG.o.es.lt hb2)
 have HCl:Hid (∀w',Wq 5 C.P W2 w'->Bo w' (w.heap.size+1) 0 (.iface t0 y0)):=λw' h=>by
  have hp:=HG.o.es.lt;have a1:w.heap.size+1≠C.P:=o_;have a2:some (w.heap.size+1)≠ow 5 W2 C.P:=λe=>by
   rw[oV hb2 hp]at e
   have:=HG.o.es.rlt5 e.symm
   omega
  have e0:=hce;exact h.cell a1 a2 e0
 go_wp2;go_loopw[16] (λi wr=>∃k:Nat,k<=1/\i=V k/\Wi C W2 its ((λk:Nat=>if k=0 then(([]:List It),l)else(c0,m0)) k).1 ((λk:Nat=>if k=0 then(([]:List It),l)else(c0,m0)) k).2 wr) (λi _=>1-(RowKit.intOf i).toNat)
 case atStart=>exact⟨0,o_,rfl,Wi.nil HG2.o⟩
 case round=>
  obtain⟨k,hk,rfl,hW⟩:=hrel;have HW:=ah hW;have hk2:k=0\/k=1:=o_;rcases hk2 with rfl|rfl
  ·have HW0:Hid (Wi C W2 its ([]) (l) wr):=HW.o
   have HCk:Hid (Calls prog 204 #[pV C.P,.iface t0 y0,V 0] wr λx w'=>(∃u,x=rW u)/\Wi C W2 its (c0) (m0) w'):=by refine(HC0.o wr _ HW0.o.gs (by simp only[l_a,l_n];omega)).mono ?_;rintro x w' ⟨hu,h2⟩;exact⟨hu,by have h3:=HW0.o.trans h2;simpa using h3⟩
   have e0:=HCl.o wr HW0.o.wq;go_wp2_with fail;refine HCk.o.mono ?_;rintro x w3 ⟨⟨u,rfl⟩,hw3⟩;have HR:=ah hw3;go_wp2;go_roundw
   case rel=>exact⟨1,o_,by go_num,HR.o⟩
   case measure=>simp[RowKit.intOf]
  have HW_0:Hid (Wi C W2 its c0 m0 wr):=HW.o;have r0:Bo wr.drew 3 0 (V 5):=HW_0.o.gs.reg HC.o 0 d_;have r1:Bo wr.drew 3 1 (V 6):=HW_0.o.gs.reg HC.o 1 d_;have H1:Hid (∀W,Bl wr W->Calls prog 207 #[pV C.P,V 10,V 5] W λe w'=>(∃u,e=rW u)/\Wi C W2 its (c0++[aw 12 10 5 0 0]) (m0) w'):=λW hW=>by refine(xe C HC.o W _ _ (HW_0.o.gs.below hW) 10 5 (by(try simp only[l_a,l_c,l_n]);omega)).mono ?_;rintro e w' ⟨hu,h2⟩;exact⟨hu,HW_0.o.trans (Wi.preB HW_0.o.gs hW h2)⟩
  go_wp2_with fail
  go_region
  skip
  go_wp2_with fail;refine(H1.o _ (by first|exact r_.drew|exact r_.drew.alloc n_ _|exact(r_.drew.drew).alloc n_ _)).mono ?_;rintro x w_1 ⟨⟨u_1,rfl⟩,hw_1⟩;have HW_1:=ah hw_1;have p7:Bo w_1 C.P 7 (V C.en):=HW_1.o.gs.es.oth 7 d_ d_;go_wp2_with fail;refine(nA C HC.o _ _ _ HW_1.o.gs 4 C.en (by(try simp only[l_a,l_c,l_n]);omega)).mono ?_;rintro x w_2 ⟨⟨u_2,rfl⟩,hw_2⟩;have HW_2:=ah (HW_1.o.trans hw_2);go_wp2_with fail;have HZ:=HWw.o HW_2.o;refine bodyPost_end (v:=.tuple #[]) (by simp[results,results186,go_sem]) rfl ⟨⟨_,rfl⟩,?_⟩;simp only[hG0]
  try simp only[append_assoc,cons_append,nil_append]at HZ⊢
  exact HZ
def LQ(C:IC)(v:BY)(g:F1)(k:Nat):Prop:=SB k g/\∀(w:AT) (its:List It) (l:Int),Gi C w its l->0<=l->l+2*k<=100000000->its.length+24*k<=8000000->Calls prog 144 #[pV C.P,v] w λx w'=>(∃u,x=rW u)/\Wi C w its (g l).1 (g l).2 w'
def Pw(C:IC)(v:BY)(g:F1)(k:Nat):Prop:=SB k g/\∀(w:AT) (its:List It) (l:Int),Gi C w its l->0<=l->l+2*k<=100000000->its.length+24*k<=8000000->Calls prog 174 #[pV C.P,v] w λx w'=>(∃u,x=rW u)/\Wi C w its (g l).1 (g l).2 w'
def F9(C:IC)(t:IN)(y:BY)(g:F1)(k:Nat)(X:t≠317)(h2:t≠319)(Y:SB k g)(U:∀(w:AT) (its:List It) (l:Int),Gi C w its l->0<=l->l+2*k<=100000000->its.length+24*k<=8000000->Calls prog 186 #[pV C.P,.iface t y] w λx w'=>(∃u,x=rW u)/\Wi C w its (g l).1 (g l).2 w'):Pw C (.iface t y) g k:=by
 refine⟨Y,?_⟩;intro w its l O Jb Ja Jc;have I:=ah (U w its l O Jb Ja Jc);have Z:=λW v=>ib W t v X
 have y2:=λW v=>gw W t v h2
 go_in;go_wp2_with fail;refine I.o.mono ?_;rintro x w1 ⟨⟨u,rfl⟩,H⟩;have J:=ah H;go_wp2_with fail;exact bodyPost_end (v:=.tuple #[]) (by simp[results,results174,go_sem]) rfl ⟨⟨_,rfl⟩,J.o⟩
structure Dy (C:IC) (s:St):Prop where
 b:bB s=true
 e:s.e.length<=2000
 f:s.f.length<=2000
 on:s.kd=6/\∀n∈s.e,n.kd=5\/n.kd=7
def Dy.one{C:IC}{s:St}(h:Dy C s):oneB s.e=true:=by
 have:=h.b
 unfold bB at this;simp only[Io]at this;exact this.1.1.1.1.2
def Dy.two{C:IC}{s:St}(h:Dy C s)(H:s.kd=3):oneB s.f=true:=by
 have:=h.b
 unfold bB at this;simp only[Io,if_pos H]at this;exact this.1.1.1.2
def Dy.nodes{C:IC}{s:St}(h:Dy C s):∀n∈s.e,LP C n:=λn hn=>⟨gS h.one n hn,h.on.2 n hn⟩
def Dy.sb{C:IC}{r:List St}(h:∀s∈r,Dy C s):SB (dX r) (bh C.E C.en r):=w_ C.E C.en r.length r n_ (λs hs=>⟨oU C.E (h s hs).one,λh3=>oU C.E ((h s hs).two h3)⟩)
def LR(s:St):dX [s]=s.e.length+s.f.length+1:=by rw[sU];simp[dX,aU]
theorem C0(C:IC)(A:Nat)(I:Nat->BY)(F:Nat->List St)(O:BY)(hA:gx C.w0 C.S O A I)(hI:∀i,i<A->∃t x,I i=.iface t x)(Jp:∀i,i<A->Pw C (I i) (bh C.E C.en (F i)) (dX (F i)))(Ja:∀i,i<A->cD (F i)=true)(Je:∀i,i<=A->SB (dX (aF F i)) (bh C.E C.en (aF F i))):LQ C O (bh C.E C.en (aF F A)) (dX (aF F A)):=by
 refine⟨Je A n_,?_⟩;intro w Jd l hG Jq Jk Jo;have HG:=ah hG;obtain⟨a,Jr,rfl,Jt,Js,hc⟩:=hA;have HK:=ah hc;have Y:=ah hI;have HX:=ah Jp;have Jn:=ah Ja;have Jl:=ah Je
 have Jc:Hid (∀i,i<A->dX (aF F i)+dX (F i)<=dX (aF F A)):=λi hi=>by
  have:∀B,i<B->dX (aF F i)+dX (F i)<=dX (aF F B):=by
   intro B hB
   induction B with
   | zero=>omega
   | succ B ih=>
    simp only[aF,kr];by_cases e:i=B;subst e;omega
    have:=ih o_;omega
  exact this A hi
 have⟨R,J⟩:=q_ (bh C.E C.en (aF F A) l);rw[<-J];have Jh:=ah J;have⟨Z,hZ⟩:=q_ (dX (aF F A));rw[<-hZ]at Jk Jo Jc;go_in;go_wp2
 go_loopw[8] (λi wr=>∃k:Nat,k<=A/\i=V k/\Wi C w Jd (bh C.E C.en (aF F k) l).1 (bh C.E C.en (aF F k) l).2 wr) (λi _=>A-(RowKit.intOf i).toNat)
 case atStart=>exact⟨0,y_,rfl,Wi.nil HG.o⟩
 case round=>
  obtain⟨k,U,rfl,X⟩:=hrel;have H:=ah X;by_cases hlt:k<A
  ·obtain⟨B,rfl,Jm,Jj⟩:=HK.o o_
   have⟨tk,xk,Jb⟩:=Y.o k hlt;have d0:=H.o.gs.cell Jm (Jj k hlt);rw[Jb]at d0;have hj:=Jc.o k hlt;have⟨b1,b2,b3⟩:=Jl.o k U l;have Jg:Hid (Calls prog 174 #[pV C.P,.iface tk xk] wr λx w'=>(∃u,x=rW u)/\Wi C w Jd (bh C.E C.en (aF F (k+1)) l).1 (bh C.E C.en (aF F (k+1)) l).2 w'):=by have h:=HX.o k hlt;rw[Jb]at h;refine(h.2 wr _ _ H.o.gs o_ o_ (by simp only[l_a];omega)).mono ?_;rintro x w' ⟨hu,Jf⟩;refine⟨hu,?_⟩;have e:bh C.E C.en (aF F (k+1)) l=_:=uz C.E C.en _ (aF F k) (F k) l n_ (jf k (λi hi=>Jn.o i o_));rw[e];exact H.o.trans Jf
   go_wp2_with fail;refine Jg.o.mono ?_;rintro x w2 ⟨⟨u,rfl⟩,Ji⟩;have HR:=ah Ji;go_wp2;go_roundw
   case rel=>exact⟨k+1,o_,by go_num,HR.o⟩
   case measure=>exact D1
  obtain rfl:k=A:=(by omega);go_wp2_with fail;exact bodyPost_end (v:=.tuple #[]) (by simp[results,results144,go_sem]) rfl ⟨⟨_,rfl⟩,by rw[Jh.o];exact H.o⟩
theorem sX{F:Nat->List St}{s:St}:∀ {A i:Nat},i<A->s∈F i->s∈aF F A
 | 0,i,h,_=>absurd h (Nat.not_lt_zero _)
 | A+1,i,h,hs=>by simp only[aF,K5];by_cases e:i=A;subst e;exact .inr hs;exact .inl (sX o_ hs)
theorem sY{F:Nat -> List St}{s:St}:∀ {A B:Nat}, A ≤ B -> s∈aF F A -> s∈aF F B
  | A, 0, h, hs=>by obtain rfl:A=0:= by omega
                    exact hs
  | A, B+1, h, hs=>by by_cases e:A=B+1;subst e; exact hs;simp only[aF, K5]; exact .inl (sY o_ hs)
theorem Ja(C:IC)(O:C.Ok){v:BY}{r:List St}(h:Bv C.w0 C.S v r)(I:∀s∈r,Dy C s)(Z:r.length<=1000):Pw C v (bh C.E C.en r) (dX r):=by
 induction h using Bv_i with
 | decl s x h1 h2 h3 h4=>exact absurd ((I s i_).on.1.symm.trans h1) d_
 | set s x h1 h2 h3 h4=>exact absurd ((I s i_).on.1.symm.trans h1) d_
 | store s x y h1 h2 h3 h4 h5=>exact absurd ((I s i_).on.1.symm.trans h1) d_
 | ret s x h1 h2 h3 h4=>
  obtain⟨t,y,rfl⟩:=h2.isI;have J:=I s i_;have⟨U,X⟩:=zK C O h2 J.nodes;refine F9 C _ _ _ _ d_ d_ (Dy.sb I) ?_;intro w Jd l Y Je Jb Jc;rw[LR]at Jb Jc
  have:=uA C O t y _ _ X U J.e w Jd l Y Je o_ o_
  rw[CV];simpa[kq,h1]using this
 | out s x h1 h2 h3 h4=>exact absurd ((I s i_).on.1.symm.trans h1) d_
 | call s x h1 h2 h3 h4=>exact absurd ((I s i_).on.1.symm.trans h1) d_
 | ifs s x va vb A B vs us F H h1 h2 h3 h4 h5 h6 h7 h8 ih1 ih2=>exact absurd ((I s i_).on.1.symm.trans h1) d_
 | whil s x va A vs F h1 h2 h3 h4 h5 h6 ih=>exact absurd ((I s i_).on.1.symm.trans h1) d_
theorem Ga(C:IC)(U:C.Ok){v:BY}{H:List St}(h:Bk C.w0 C.S v H)(I:∀s∈H,Dy C s)(Y:H.length<=1000):LQ C v (bh C.E C.en H) (dX H):=by
 obtain⟨A,J,F,O,h2,rfl⟩:=h
 have Jb:∀i,i<A->(F i).length<=(aF F A).length:=λi hi=>by
  have:∀D,i<D->(F i).length<=(aF F D).length:=by
   intro D X
   induction D with
   | zero=>omega
   | succ D ih=>
    simp only[aF,l_a];by_cases e:i=D;subst e;omega
    have:=ih o_;omega
  exact this A hi
 exact C0 C A J F _ O (λi hi=>(h2 i hi).isI) (λi hi=>Ja C U (h2 i hi) (λz hz=>I z (sX hi hz)) (Ft (Jb i hi))) (λi hi=>(h2 i hi).fit) (λi hi=>Dy.sb (λz hz=>I z (sY hi hz)))
section
variable{C:IC}{w w':AT}{its:List It}{l:Int}{S':DO}
def sZ(C:IC)(J:C.Ok)(w:AT)(its:List It)(l:Int)(H:Gi C w its l)(O:0<=C.sz/\C.sz<=1000000):Calls prog 143 #[pV C.P] w λe w'=>e=rW (V (C.sz-4))/\w'=w:=by
 have h2:Bo w C.P 2 (V C.sz):=H.es.oth 2 d_ d_;have I:IntKind.i64.wrap (C.sz-4)=C.sz-4:=by simp[IntKind.wrap,IntKind.bits,IntKind.signed];omega
 generalize C.sz=n at*;go_in;go_wp2;go_ret;exact⟨i_,rfl⟩
def IC.blocks(H:Gi C w its l)(I:Bl w w')(O:∀B,S' B->w.heap.size<=B/\B<w'.heap.size):Gi {C with w0:=w',S:=λB=>C.S B\/S' B} w' its l:=by
 have Ja:=H.es.lt;refine⟨H.es.below I,λB _=>rfl,λB hB=>?_⟩;rcases hB with hB|hB;have h:=(H.below I).ap B hB;exact h
 have⟨U,h2⟩:=O B hB;refine⟨h2,by show B≠C.P;omega,λe=>?_⟩;have J:ow 5 w' C.P=some B:=e.symm;rw[oV I Ja]at J;have:=H.es.rlt5 J
 omega
def IC.okBlocks(h:C.Ok)(J:Gi C w its l)(O:Bl w w'):({C with w0:=w',S:=λB=>C.S B\/S' B}:IC).Ok:=by
 have I:=(J.below O).kp;refine⟨.inl h.so,.inl h.sm,.inl h.sa,.inl h.sr,.inl h.sb,⟨λj hj=>?_,λj hj=>?_⟩,?_,?_,?_,h.gl,h.gz,h.nl⟩;exact(J.below O).reg h j hj;exact(J.below O).bin h j hj
 have⟨nn,D,H,h2⟩:=h.mo;exact⟨nn,D,gP H (I _ h.so),h2⟩
 have⟨nn,D,H,h2⟩:=h.mm;exact⟨nn,D,gP H (I _ h.sm),h2⟩
 have⟨nn,D,H,h2⟩:=h.ma;exact⟨nn,D,gP H (I _ h.sa),h2⟩
end
section
variable{w:AT}{its:List It}{l:Int}{j P bm:Nat}{t:Tr}
def Gi.off{C:IC}(J:C.Ok)(h:Gi C w its l){s:IF}(Y:s.size<=maxLen)(X:C.ns.findIdx? (λx=>decide (x=s))=some j):
  (Instr.lookup 131 (.map (some C.bo)) (sV s) false).run prog w=.ok (V (4*(j:Int))) w:=by
 have⟨nn,D,O,U⟩:=J.mo;have Jc:w.ownsMap prog 9 (plainElem (H:=Unit) prog 2) C.bo nn D:=gP O (h.kp _ J.so);obtain⟨c,Ja,Jb,-⟩:=Jc.lookup_int (key:=.string s) (Maps.string_keyed underlying9) underlying131 underlying2 (zeroValue2 _) (WideMaps.keyOf_string_mk underlying9 Y);have I:=U.val s j X;unfold kS at I;rw[I]at Jb;simp only[DataW.lit.injEq,Lit.int.injEq,true_and]at Jb;rw[<-Jb]at Ja;exact Ja
def zL{h:List IF}(I:h.Nodup)(H:j<h.length):h.findIdx? (λx=>decide (x=h[j]))=some j:=by rw[findIdx?_eq_some_iff_getElem];refine⟨H,i_,λi hi=>?_⟩;have:=pairwise_iff_getElem.1 I i j o_ H hi;simpa using this
def uL(P bm:Nat)(t:Tr)(w:AT):Prop:=(∃nn D,w.ownsMap prog 9 (plainElem (H:=Unit) prog 2) bm nn D/\cY D t.fc)/\bm≠P/\some bm≠ow 5 w P
def uL.wq{w':AT}(h:uL P bm t w)(I:Wq 5 P w w'):uL P bm t w':=by obtain⟨⟨nn,D,H,h2⟩,h3,h4⟩:=h;have J:=H.lt;refine⟨⟨nn,D,gP H (I.block bm J h3 h4),h2⟩,h3,λe=>?_⟩;rcases I.row bm e.symm with h|h;exact h4 h.symm;omega
def qs{w0 w3 W6:AT}{ba b:Nat}{FZq:Int}{NS:List IF}(hP:w0.heap.size<=P)
  (Jp:P<w.heap.size) (Jf:jr w0) (Jb:3<w0.heap.size/\7<w0.heap.size) (Ji:uL P bm t W6) (Jj:∃nn D,w0.ownsMap prog 9 (plainElem (H:=Unit) prog 2) ba nn D/\eh D t.gl)
  (Jn:t.gl.length<=50) (Jk:∀g∈t.gl,0<=g.size/\g.size<=4000) (Jl:NS.length<=1000) (Jc:Bl w0 W6) (Jq:Bl w w3) (Jo:w.heap.size<=b) (Je:b<w3.heap.size) (Jm:∃nn D,w3.ownsMap prog 9 (plainElem (H:=Unit) prog 2) b nn D/\bJ D NS)
  (Ja:Wq 5 P w3 W6) (O:∀k,ow 5 w3 P=some k->P<k/\k<w.heap.size) (Jg:Em 214 5 8 P W6 its (rp (.map (some b)) (4*(NS.length:Int)) FZq (.map (some bm)) (.map (some ba)) (l+1) l)):
  ({w0:=W6,P:=P,S:=λB=>B=b\/B=bm\/B=ba\/B=3\/B=7,bo:=b,bm:=bm,ba:=ba,sz:=FZq,en:=l,t:=t,ns:=NS}:IC).Ok/\Gi {w0:=W6,P:=P,S:=λB=>B=b\/B=bm\/B=ba\/B=3\/B=7,bo:=b,bm:=bm,ba:=ba,sz:=FZq,en:=l,t:=t,ns:=NS} W6 its (l+1):=by
 obtain⟨⟨n1,Y,o1,i1⟩,U,X⟩:=Ji;obtain⟨n2,D2,I,Z⟩:=Jj;obtain⟨n3,D3,o3,i3⟩:=Jm;have l1:=o1.lt;have J:=I.lt;have Jh:W6.heap[b]? =w3.heap[b]? := Ja.block b Je o_ (λe=>Ft (O b e.symm));have Jd:∀B,B<w0.heap.size->B<W6.heap.size/\B≠P/\some B≠ow 5 W6 P:=λB hB=>by refine⟨Ft Jc.size,o_,λe=>?_⟩;have:=Jg.rlt5 e.symm;omega
 refine⟨⟨.inl rfl,.inr (.inl rfl),.inr (.inr (.inl rfl)),.inr (.inr (.inr (.inl rfl))),.inr (.inr (.inr (.inr rfl))),⟨λj hj=>(Jc.cell (p:=⟨3,j,none⟩) Jb.1).trans (Jf.reg j hj),λj hj=>(Jc.cell (p:=⟨7,j,none⟩) Jb.2).trans (Jf.bin j hj)⟩,⟨n3,D3,gP o3 Jh,i3⟩,⟨n1,Y,o1,i1⟩,⟨n2,D2,gP I (Jc.block ba J),Z⟩,Jn,Jk,Jl⟩,Jg,λB _=>rfl,λB hB=>?_⟩;rcases hB with rfl|rfl|rfl|rfl|rfl;refine⟨l_ Je Ja.size,by show B≠P;omega,λe=>?_⟩;have e':ow 5 W6 P=some B:=e.symm;rcases Ja.row B e' with h|h
 have:=O B h;omega
 omega;exact⟨l1,U,X⟩;exact Jd _ J;exact Jd _ Jb.1;exact Jd _ Jb.2
end
@[reducible] def IC.ext (C:IC) (w:AT) (S':DO):IC:= {C with w0:=w,S:=λB=>C.S B\/S' B}
theorem nC:∀j,(oD j).length=j
 | 0=>rfl
 | j+1=>by simp[oD,nC j]
def Wq.bel5{P:Nat}{w0 w w':AT}(h:Wq 5 P w w')(H:Bl w0 w)(J:w0.heap.size<=P)(I:∀k,ow 5 w P=some k->P<k):Bl w0 w':=by
 refine H.trans ⟨h.still.1,h.still.2.1,h.still.2.2,h.size,λk hk=>?_⟩;refine h.block k (Ft H.size) o_ (λe=>?_)
 have:=I k e.symm
 omega
theorem Gb(Zm:wO)(t:Tr)(w0:World)(P bm ba:Nat)(hP:w0.heap.size<=P)(Jl:eG w0)(Zk:jr w0)(Vv:3<w0.heap.size/\7<w0.heap.size)(Zi:∃nn D,w0.ownsMap prog 9 (plainElem (H:=Unit) prog 2) ba nn D/\eh D t.gl)(Vu:t.gl.length<=50)(Zj:∀g∈t.gl,0<=g.size/\g.size<=4000)
  (i:Nat) (hi:i<50) (f:Fu) (vp vb:Value) (Zl:Strs w0 vp f.pm) (Zg:be w0 vb f.bd) (Jm:I3 f) (Xs:∀s∈f.bd,bB s=true/\s.e.length<=2000/\s.f.length<=2000) (Zh:∀s∈f.bd,s.kd=6/\∀n∈s.e,n.kd=5\/n.kd=7) (Xj:cD f.bd=true) (Vt:4<=aH f/\aH f<=1000000) (Uk:f.pm.length<=6) (Ui:f.bd.length<=500)
  (w:World) (its:List It) (l:Int) (vo:Value) (pl sz en:Int) (hO:Em 214 5 8 P w its (rp vo pl sz (.map (some bm)) (.map (some ba)) l en)) (Z:Below w0.heap.size w0 w) (Zf:uL P bm t w) (Uj:0<=l) (Ul:l+2*(dX f.bd+1)<=90000000) (Um:its.length+24*(dX f.bd+1)<=7000000):
  Calls prog 86 #[pV P,V (i:Int),.agg #[sV f.nm,vp,vb]] w λx w'=>(∃u,x=rW u)/\(∃vo' pl' sz' en',Em 214 5 8 P w' (its++(codeF t i f l).1) (rp vo' pl' sz' (.map (some bm)) (.map (some ba)) (codeF t i f l).2 en'))/\Below w0.heap.size w0 w'/\uL P bm t w':=by
 have HO:=ah hO;have HB:=ah Z;have Xc:=ah Jl;have Vg:=ah Zl;have Zc:=ah Zg;obtain⟨ap,cp,rfl,Uf,Uc,Yx⟩:=Zl;obtain⟨ab,cb,rfl,-⟩:=Zg;have Vj:=ah Yx;have Xx:=hO.lt;have Zo:Hid (∀k,ow 5 w P=some k->P<k/\k<w.heap.size):=λk hk=>hO.rlt5 hk
 have⟨W2,Js⟩:=q_ (w.alloc (.cells #[sV f.nm,.slice ap f.pm.length cp,.slice ab f.bd.length cb] 143));have Yw:Bl w W2:=by rw[Js];exact r_.alloc n_ _
 have Vy:W2.heap.size=w.heap.size+1:=by rw[Js];simp
 have e0:W2.cell? ⟨w.heap.size,0,none⟩=some (sV f.nm):=by rw[Js];simp
 have e1:W2.cell? ⟨w.heap.size,1,none⟩=some (.slice ap f.pm.length cp):=by rw[Js];simp
 have e2:W2.cell? ⟨w.heap.size,2,none⟩=some (.slice ab f.bd.length cb):=by rw[Js];simp
 have Xp:Bl w0 W2:=Z.trans (Yw.mono Z.size);have Yl:Hid (Calls prog 80 #[.agg #[sV f.nm,.slice ap f.pm.length cp,.slice ab f.bd.length cb]] W2 λe w'=>∃b,e=rW (.agg #[.map (some b),V (4*((f.pm++declN f.bd).length:Int)),V (aH f)])/\Bl W2 w'/\W2.heap.size<=b/\∃nn D,w'.ownsMap prog 9 (plainElem (H:=Unit) prog 2) b nn D/\bJ D (f.pm++declN f.bd)):=nW f _ _ W2 (Jl.below Jl.size Xp) (Vg.out.below Xp) (Zc.out.below Xp) Jm.st Jm.nd Jm.pl o_ Jm.sz;have Za:(f.pm++declN f.bd).length<=1000:=by
  have:=kN f.bd
  simp only[l_a];omega
 obtain⟨NS,Jw⟩:∃NS,f.pm++declN f.bd=NS:=⟨_,rfl⟩;have⟨FZq,Xl⟩:=q_ (aH f);have Yj:Hid (codeF t i f l=([aW 2 i,aw 12 2 2 0 (-FZq),aw 11 0 2 1 (FZq-4)]++oD f.pm.length++(bh (qp t f) l f.bd (l+1)).1++[aw 12 10 0 0 0,aW 2 l,aw 10 1 2 0 (FZq-4),aw 12 2 2 0 FZq,aw 3 0 1 0 0],(bh (qp t f) l f.bd (l+1)).2)):=by rw[Xl];rfl
 have Xt:Hid (qp t f=⟨NS.length,LN NS,λs=>globA t.gl s 1048576,lh t.fc⟩):=by rw[<-Jw];rfl
 have Ue:Hid (NS.Nodup):=by rw[<-Jw];exact Jm.nd
 have Zv:Hid (∀j (hj:j<f.pm.length),NS.findIdx? (λx=>decide (x=f.pm[j]))=some j/\f.pm[j].size<=maxLen):=λj hj=>by
  have Vr:j<(f.pm++declN f.bd).length:=by simp;omega
  have e:(f.pm++declN f.bd)[j]=f.pm[j]:=List.getElem_append_left hj;have O:=zL Jm.nd Vr;rw[e]at O;rw[<-Jw];exact⟨O,Jm.sz _ i_⟩
 have Xf:Hid (∀s∈f.bd,bB s=true/\s.e.length<=2000/\s.f.length<=2000/\s.kd=6/\∀n∈s.e,n.kd=5\/n.kd=7):=λs hs=>⟨(Xs s hs).1,(Xs s hs).2.1,(Xs s hs).2.2,Zh s hs⟩
 rw[Jw,<-Xl]at Yl;rw[Jw]at Za;rw[<-Xl]at Vt;have Zt:=ah Js;have Zs:=ah Zf;have Vq:=ah Zi;have Vb:=ah Zj;have Vo:=ah Zk;have Yi:=ah Xj;have Z_:=ah Zm;have⟨R,hR⟩:=q_ (codeF t i f l);rw[<-hR];have HR:=ah hR;clear Js hO Z Jl Yx Jm Xs Zh Xj Zf Zi Zj Zk Zm Jw Xl Xp hR;go_in;go_wp2_with fail;rw[<-Zt.out];refine Yl.out.mono ?_;rintro x w3 ⟨b,rfl,Xq,Zz,X_⟩;have Jd:Bl w w3:=Yw.trans (Xq.mono o_);have Jv:Hid (Em 214 5 8 P w3 its (rp vo pl sz (.map (some bm)) (.map (some ba)) l en)):=HO.out.below Jd;have Vl:=ah X_;have Vc:b<w3.heap.size:=by obtain⟨nn,D,h,_⟩:=X_;exact h.lt
 have Vx:w.heap.size+1<=w3.heap.size:=by have:=Xq.size;omega
 have Xr:Hid (∀k,ow 5 w3 P=some k->P<k/\k<w.heap.size):=λk hk=>by rw[oV Jd Xx]at hk;exact Zo.out k hk
 have p0:w3.cell? ⟨P,0,none⟩=some vo:=Jv.out.oth 0 d_ d_;have p1:w3.cell? ⟨P,1,none⟩=some (V pl):=Jv.out.oth 1 d_ d_;have X:w3.cell? ⟨P,2,none⟩=some (V sz):=Jv.out.oth 2 d_ d_;have f0:=Jv.out.fz 0;have f1:=Jv.out.fz 1;have f2:=Jv.out.fz 2;have E1:=pj Jv.out 0 d_ d_ (.map (some b));have E2:=pj E1.1 1 d_ d_ (V (4*(NS.length:Int)));have E3:=pj E2.1 2 d_ d_ (V FZq);have⟨W4,Xo⟩:=q_ (((w3.setCell ⟨P,0,none⟩ (.map (some b))).setCell ⟨P,1,none⟩ (V (4*(NS.length:Int)))).setCell ⟨P,2,none⟩ (V FZq));have Vn:Hid (Em 214 5 8 P W4 its (rp (.map (some b)) (4*(NS.length:Int)) FZq (.map (some bm)) (.map (some ba)) l en)):=by
  show Em _ _ _ _ _ _ _;rw[Xo];refine E3.1.congr λo ho hq=>?_
  have:o=0\/o=1\/o=2\/o=3\/o=4\/o=6\/o=7:=by omega
  rcases this with rfl|rfl|rfl|rfl|rfl|rfl|rfl <;> rfl
 have Vs:Hid (Wq 5 P w3 W4):=by show Wq _ _ _ _;rw[Xo];exact(E1.2.trans E2.2).trans E3.2
 have Zu:=ah Xo;clear E1 E2 E3 Xo X_ Yl;go_wp2_with fail;rw[<-Zu.out];clear p0 p1 X f0 f1 f2;refine(yU P its _ l W4 Vn.out rfl o_).mono ?_;rintro x w5 ⟨rfl,Xe,Zd⟩;have Ye:Hid (Em 214 5 8 P w5 its (rp (.map (some b)) (4*(NS.length:Int)) FZq (.map (some bm)) (.map (some ba)) (l+1) en)):=by
  refine Xe.congr λo ho hq=>?_
  have:o=0\/o=1\/o=2\/o=3\/o=4\/o=6\/o=7:=by omega
  rcases this with rfl|rfl|rfl|rfl|rfl|rfl|rfl <;> rfl
 have p7:w5.cell? ⟨P,7,none⟩=some (V en):=Ye.out.oth 7 d_ d_;have f7:=Ye.out.fz 7;have E6:=pj Ye.out 7 d_ d_ (V l);have⟨W6,Xk⟩:=q_ (w5.setCell ⟨P,7,none⟩ (V l));have Vm:Hid (Em 214 5 8 P W6 its (rp (.map (some b)) (4*(NS.length:Int)) FZq (.map (some bm)) (.map (some ba)) (l+1) l)):=by
  show Em _ _ _ _ _ _ _;rw[Xk];refine E6.1.congr λo ho hq=>?_
  have:o=0\/o=1\/o=2\/o=3\/o=4\/o=6\/o=7:=by omega
  rcases this with rfl|rfl|rfl|rfl|rfl|rfl|rfl <;> rfl
 have Xa:Hid (Wq 5 P w3 W6):=by show Wq _ _ _ _;rw[Xk];exact(Vs.out.trans Zd).trans E6.2
 have Vf:=ah Xk;have Yv:Bl w0 w3:=HB.out.trans (Jd.mono HB.out.size);have Zy:Hid (Bl w0 W6):=Xa.out.bel5 Yv hP (λk hk=>(Xr.out k hk).1);have Xd:Hid (uL P bm t W6):=(Zs.out.wq (Wq.below Xx Jd)).wq Xa.out;have⟨Xu,Xw⟩:=qs (t:=t) (w0:=w0) (w:=w) (w3:=w3) (W6:=W6) (P:=P) (bm:=bm) (ba:=ba) (b:=b) (its:=its) (l:=l) (FZq:=FZq) (NS:=NS) hP Xx Vo.out Vv Xd.out Vq.out Vu Vb.out Za Zy.out Jd o_ Vc Vl.out Xa.out Xr.out Vm.out;obtain⟨C,Jo⟩:∃C:IC,C={w0:=W6,P:=P,S:=λB=>B=b\/B=bm\/B=ba\/B=3\/B=7,bo:=b,bm:=bm,ba:=ba,sz:=FZq,en:=l,t:=t,ns:=NS}:=⟨_,rfl⟩;rw[<-Jo]at Xu Xw;have Y:=ah Xu;have Vk:=ah Xw;have Ve:Hid (C.P=P):=by show _=_;rw[Jo]
 have Xm:Hid (C.sz=FZq):=by show _=_;rw[Jo]
 have Zb:Hid (C.en=l):=by show _=_;rw[Jo]
 have Va:Hid (C.E=qp t f):=by show _=_;rw[Jo,Xt.out];rfl
 have Xv:Hid (C.ns=NS/\C.t=t/\C.bo=b/\C.bm=bm/\C.ba=ba):=by rw[Jo];exact⟨rfl,rfl,rfl,rfl,rfl⟩
 have Y_:Hid (∀w',Wq 5 P W6 w'->(w'.cell? ⟨w.heap.size,1,none⟩=some (.slice ap f.pm.length cp))/\(w'.cell? ⟨w.heap.size,2,none⟩=some (.slice ab f.bd.length cb))):=λw' h=>by
  have a1:w.heap.size≠P:=o_;have a2:some w.heap.size≠ow 5 w3 P:=λh=>by have:=Xr.out _ h.symm;omega
  have h':=Xa.out.trans h;exact⟨h'.cell a1 a2 ((Xq.cell (p:=⟨w.heap.size,1,none⟩) (by simp;omega)).trans e1),h'.cell a1 a2 ((Xq.cell (p:=⟨w.heap.size,2,none⟩) (by simp;omega)).trans e2)⟩
 have Yd:Hid (∀w',Wq 5 P W6 w'->Bl w0 w'):=λw' h=>(Xa.out.trans h).bel5 Yv hP (λk hk=>(Xr.out k hk).1)
 clear Xu Xw Xe Zd E6 Xk e0 e1 e2 Jo;have k1:IntKind.i64.wrap (-FZq)= -FZq:=by simp[IntKind.wrap,IntKind.bits,IntKind.signed];omega
 have Zr:=Ve.out;subst Zr;go_wp2_with fail;rw[<-Vf.out];clear p7 f7;refine(nA C Y.out W6 its (l+1) Vk.out 2 (i:Int) (by(try simp only[l_a,l_c,l_n]);omega)).mono ?_;rintro x Yt ⟨⟨Vh,rfl⟩,Jg⟩;have Jk:=ah Jg;clear Jg;have X:Yt.cell? ⟨C.P,2,none⟩=some (V C.sz):=Jk.out.gs.es.oth 2 d_ d_;rw[Xm.out]at X;go_wp2_with fail;refine(bF C Y.out Yt (its++([aW 2 (i:Int)])) (l+1) Jk.out.gs 12 2 2 (-FZq) (by(try simp only[l_a,l_c,l_n]);omega)).mono ?_;rintro x Xy ⟨⟨Zw,rfl⟩,Je⟩;have Ji:Hid (Wi C W6 its ([aW 2 (i:Int)]++[aw 12 2 2 0 (-FZq)]) (l+1) Xy):=Jk.out.trans Je;clear Je
 try clear X
 go_wp2_with fail;refine(sZ C Y.out Xy (its++([aW 2 (i:Int)]++[aw 12 2 2 0 (-FZq)])) (l+1) Ji.out.gs (by rw[Xm.out];omega)).mono ?_;rintro x Vi ⟨rfl,Jh⟩;rw[Jh,Xm.out];clear Jh;go_wp2_with fail;refine(jK C Y.out Xy (its++([aW 2 (i:Int)]++[aw 12 2 2 0 (-FZq)])) (l+1) Ji.out.gs 1 2 (FZq-4) (by(try simp only[l_a,l_c,l_n]);omega)).mono ?_;rintro x Yz ⟨⟨Zq,rfl⟩,Jf⟩;have Jn:Hid (Wi C W6 its ([aW 2 (i:Int)]++[aw 12 2 2 0 (-FZq)]++[aw 11 0 2 1 (FZq-4)]) (l+1) Yz):=Ji.out.trans Jf;clear Jf;have e1:=(Y_.out Yz Jn.out.wq).1;go_wp2_with fail;clear e1;go_loopw[38] (λi_ wr=>∃j:Nat,j<=f.pm.length/\i_=V j/\Wi C W6 its ([aW 2 (i:Int)]++[aw 12 2 2 0 (-FZq)]++[aw 11 0 2 1 (FZq-4)]++oD j) (l+1) wr) (λi_ _=>f.pm.length-(RowKit.intOf i_).toNat)
 case atStart=>exact⟨0,y_,rfl,by rw[show oD 0=[]from rfl,List.append_nil];exact Jn.out⟩
 case round=>
  clear Jn Ji Jk;obtain⟨j,hj,rfl,hW⟩:=hrel;have U:=ah hW;clear hW;have Ud:=nC j;by_cases hlj:j<f.pm.length
  ·obtain⟨bp,Xh,rfl,Yp⟩:=Vj.out o_
   have⟨Yy,Yr⟩:=Zv.out j hlj;have d0:wr.cell? ⟨bp,Xh+j,none⟩=some (sV f.pm[j]):=by have O:=Yp j hlj;exact((Yd.out wr U.out.wq).cell (p:=⟨bp,Xh+j,none⟩) (b_ O)).trans O
   have p0:wr.cell? ⟨C.P,0,none⟩=some (.map (some C.bo)):=U.out.gs.es.oth 0 d_ d_;have Ys:=U.out.gs.off Y.out Yr (by rw[Xv.out.1];exact Yy);have k3:IntKind.i64.wrap (10+(j:Int))=10+(j:Int):=(by simp[IntKind.wrap,IntKind.bits,IntKind.signed];omega);clear Yp Yy Yr;generalize f.pm[j]=nm at d0 Ys;go_wp2_with fail;refine(jK C Y.out wr _ _ U.out.gs (10+(j:Int)) 2 (4*(j:Int)) (by simp only[l_a,l_c,l_n];omega)).mono ?_;rintro x w9 ⟨⟨u9,rfl⟩,Yq⟩;have Zn:Hid (Wi C W6 its ([aW 2 (i:Int)]++[aw 12 2 2 0 (-FZq)]++[aw 11 0 2 1 (FZq-4)]++oD (j+1)) (l+1) w9):=by have h:=U.out.trans Yq;rw[List.append_assoc]at h;exact h
   clear Yq U d0 p0 Ys;go_wp2;go_roundw
   case rel=>exact⟨j+1,o_,by go_num,Zn.out⟩
   case measure=>simp[RowKit.intOf];omega
  obtain rfl:j=f.pm.length:=(by omega);have e2:=(Y_.out wr U.out.wq).2;have Yg:=Yd.out wr U.out.wq;have Jx:Hid (Calls prog 90 #[.slice ab f.bd.length cb] wr λe w'=>∃(u:Value) (S':Nat->Prop),e=rW u/\Bk w' S' u f.bd/\(∀B,S' B->wr.heap.size<=B/\B<w'.heap.size)/\Bl wr w'):=Z_.out f.bd _ wr (Xc.out.below Xc.out.size Yg) (Zc.out.below Yg) Yi.out (λs hs=>by obtain⟨O,h2,h3,-⟩:=Xf.out s hs;exact⟨O,h2,h3⟩) o_;clear Yg;go_wp2_with fail;refine Jx.out.mono ?_;rintro x I ⟨ub,J,rfl,Ym,Yo,Xn⟩;have⟨Ja,Jj⟩:=q_ (its++([aW 2 (i:Int)]++[aw 12 2 2 0 (-FZq)]++[aw 11 0 2 1 (FZq-4)]++oD f.pm.length));have Zx:Hid (Gi (C.ext I J) I Ja (l+1)):=(by rw[Jj];exact IC.blocks U.out.gs Xn Yo);have Jp:Hid (C.ext I J).Ok:=IC.okBlocks Y.out U.out.gs Xn;have Jq:Hid ((C.ext I J).sz=FZq):=Xm.out;have Yh:Hid ((C.ext I J).en=l):=Zb.out;have Yu:Ja.length<=its.length+3+f.pm.length:=(by rw[Jj];simp[nC];omega);have Jz:Hid (LQ (C.ext I J) ub (bh (qp t f) l f.bd) (dX f.bd)):=by have h:=Ga (C.ext I J) Jp.out (Ym.keep (λB Z=>.inr Z) (λB Z=>rfl)) (λs hs=>by have⟨O,h2,h3,h4⟩:=Xf.out s hs;exact⟨O,h2,h3,h4⟩) o_;have e1:(C.ext I J).E=qp t f:=Va.out;have e2:(C.ext I J).en=l:=Zb.out;rw[e1,e2]at h;exact h
  have⟨t1,t2,t3⟩:=Jz.out.1 (l+1);obtain⟨Jc,Jb,Yc⟩:∃c m,bh (qp t f) l f.bd (l+1)=(c,m):=⟨_,_,rfl⟩;rw[Yc]at t1 t2 t3 Yj;simp only at t1 t2 t3 Yj;have Yf:Hid (∀(W:World) (its':List It),Gi (C.ext I J) W its' (l+1)->its'.length+24*dX f.bd<=8000000->Calls prog 144 #[pV C.P,ub] W λx w'=>(∃u,x=rW u)/\Wi (C.ext I J) W its' Jc Jb w'):=λW its' hg hln=>by
   have:=Jz.out.2 W its' (l+1) hg o_ o_ hln
   rw[Yc]at this;exact this
  have Yn:Hid (∀new l' w',Wi (C.ext I J) I Ja new l' w'->(∃vo' pl' sz' en',Em 214 5 8 C.P w' (its++([aW 2 (i:Int)]++[aw 12 2 2 0 (-FZq)]++[aw 11 0 2 1 (FZq-4)]++oD f.pm.length)++new) (rp vo' pl' sz' (.map (some bm)) (.map (some ba)) l' en'))/\Bl w0 w'/\uL C.P bm t w'):=λnew l' w' h=>by have O:Em 214 5 8 C.P w' (Ja++new) (rp (.map (some C.bo)) (4*(C.ns.length:Int)) C.sz (.map (some C.bm)) (.map (some C.ba)) l' C.en):=h.gs.es;have h2:Wq 5 C.P I w':=h.wq;rw[Xv.out.2.2.2.1,Xv.out.2.2.2.2,Jj]at O;have h3:=(U.out.wq.trans (Wq.below U.out.gs.es.lt Xn)).trans h2;exact⟨⟨_,_,_,_,O⟩,Yd.out w' h3,Xd.out.wq h3⟩
  have Ug:=gQ 10 0;have Zp:Hid (cK 10 0=[aw 12 10 0 0 0]):=(by show _=_;unfold cK;rw[if_pos o_]);obtain⟨Vw,Ua,Vz,rfl⟩:∃a n c,ub=.slice a n c:=by obtain⟨A,vs,F,O,-,-⟩:=Ym;obtain⟨a,c,e,-⟩:=O;exact⟨a,A,c,e⟩
  clear Ym Yo Xn Jx Jj Yc e2 U;go_wp2_with fail;refine(Yf.out I Ja Zx.out (by(try simp only[l_a,l_c,l_n]);omega)).mono ?_;rintro x Vd ⟨⟨Vh,rfl⟩,Jg⟩;have Jy:=ah Jg;clear Jg;go_wp2_with fail;refine(nZ (C.ext I J) Jp.out Vd (Ja++(Jc)) (Jb) Jy.out.gs 10 0 (by(try simp only[l_a,l_c,l_n]);omega) o_).mono ?_;rintro x Yb ⟨⟨Zw,rfl⟩,Je⟩;have Jr:Hid (Wi (C.ext I J) I Ja (Jc++cK 10 0) (Jb) Yb):=Jy.out.trans Je;clear Je;have p7:Yb.cell? ⟨C.P,7,none⟩=some (V (C.ext I J).en):=Jr.out.gs.es.oth 7 d_ d_;rw[Yh.out]at p7;go_wp2_with fail;refine(nA (C.ext I J) Jp.out Yb (Ja++(Jc++cK 10 0)) (Jb) Jr.out.gs 2 l (by(try simp only[l_a,l_c,l_n]);omega)).mono ?_;rintro x Ya ⟨⟨Zq,rfl⟩,Jf⟩;have Jt:Hid (Wi (C.ext I J) I Ja (Jc++cK 10 0++[aW 2 l]) (Jb) Ya):=Jr.out.trans Jf;clear Jf
  try clear p7
  go_wp2_with fail;refine(sZ (C.ext I J) Jp.out Ya (Ja++(Jc++cK 10 0++[aW 2 l])) (Jb) Jt.out.gs (by rw[Jq.out];omega)).mono ?_;rintro x Vi ⟨rfl,Jh⟩;rw[Jh,Jq.out];clear Jh;go_wp2_with fail;refine(sW (C.ext I J) Jp.out Ya (Ja++(Jc++cK 10 0++[aW 2 l])) (Jb) Jt.out.gs 1 2 (FZq-4) (by(try simp only[l_a,l_c,l_n]);omega)).mono ?_;rintro x Yk ⟨⟨V_,rfl⟩,J_⟩;have Ju:Hid (Wi (C.ext I J) I Ja (Jc++cK 10 0++[aW 2 l]++[aw 10 1 2 0 (FZq-4)]) (Jb) Yk):=Jt.out.trans J_;clear J_;have X:Yk.cell? ⟨C.P,2,none⟩=some (V (C.ext I J).sz):=Ju.out.gs.es.oth 2 d_ d_;rw[Jq.out]at X;go_wp2_with fail;refine(bF (C.ext I J) Jp.out Yk (Ja++(Jc++cK 10 0++[aW 2 l]++[aw 10 1 2 0 (FZq-4)])) (Jb) Ju.out.gs 12 2 2 FZq (by(try simp only[l_a,l_c,l_n]);omega)).mono ?_;rintro x Ze ⟨⟨Ub,rfl⟩,Xi⟩;have Xb:Hid (Wi (C.ext I J) I Ja (Jc++cK 10 0++[aW 2 l]++[aw 10 1 2 0 (FZq-4)]++[aw 12 2 2 0 FZq]) (Jb) Ze):=Ju.out.trans Xi;clear Xi
  try clear X
  go_wp2_with fail;refine(bF (C.ext I J) Jp.out Ze (Ja++(Jc++cK 10 0++[aW 2 l]++[aw 10 1 2 0 (FZq-4)]++[aw 12 2 2 0 FZq])) (Jb) Xb.out.gs 3 0 1 0 (by(try simp only[l_a,l_c,l_n]);omega)).mono ?_;rintro x Vp ⟨⟨Uh,rfl⟩,Xg⟩;have Xz:Hid (Wi (C.ext I J) I Ja (Jc++cK 10 0++[aW 2 l]++[aw 10 1 2 0 (FZq-4)]++[aw 12 2 2 0 FZq]++[aw 3 0 1 0 0]) (Jb) Vp):=Xb.out.trans Xg;clear Xg;go_wp2_with fail;refine bodyPost_end (v:=.tuple #[]) (by simp[results,results86,go_sem]) rfl ⟨⟨_,rfl⟩,?_⟩;have HZ:=Yn.out _ _ _ Xz.out;rw[HR.out,Yj.out];rw[Zp.out]at HZ;simp only[List.append_assoc,List.cons_append,List.nil_append]at HZ⊢;exact HZ
end Go.Proofs.YtngnoopnloojjaaGreatDoor
