import Derived.BigQuiet
import Derived.Test.YtngnoopnloojjaaGreatDoorQ02
namespace Go.Proofs.YtngnoopnloojjaaGreatDoor
open Go.Proofs.Tryz
set_option linter.all false
set_option maxRecDepth 100000
set_option maxHeartbeats 0
variable[Inhabited Pick]
section
open Go.RowKit
def aB{a b:Bool}(h:a=b):Ending.returned (.bool a)=rW (.bool b):=by rw[h]
def dh(c:Int)(w:AT):Calls prog 106 #[.int .u8 c] w λe w'=>e=rW (.bool (eJ c))/\w'=w:=by
 go_in;go_wp2
 all_goals go_ret
 all_goals (refine⟨aB ?_,rfl⟩;apply Bool.eq_iff_iff.2;simp[eJ] <;> omega)
def jd(c:Int)(w:AT):Calls prog 109 #[.int .u8 c] w λe w'=>e=rW (.bool (iL c))/\w'=w:=by
 go_in;go_wp2
 all_goals go_ret
 all_goals (refine⟨aB ?_,rfl⟩;apply Bool.eq_iff_iff.2;simp[iL] <;> omega)
def kF(c:Int)(w:AT):Calls prog 155 #[.int .u8 c] w λe w'=>e=rW (.bool (gR c))/\w'=w:=by
 cases h:eJ c
 all_goals
  go_in;go_wp2_with(first|(go_at_call 106;refine(dh _ _).mono ?_;rintro e w' ⟨rfl,rfl⟩;rw[h])|(go_at_call 109;refine(jd _ _).mono ?_;rintro e w' ⟨rfl,rfl⟩))
  all_goals go_ret
  all_goals (refine⟨aB ?_,rfl⟩;simp[gR,h])
def pz(s:IF)(w:AT):Calls prog 153 #[sV s] w λe w'=>e=rW (.bool (i7 s)) ∧ w'=w:= by
  go_in;go_wp2
  all_goals go_ret
  all_goals (refine⟨aB ?_, rfl⟩; first|(simp[i7, *]; done)|(exfalso; simp_all))
end
section
open Go.RowKit
def bA(v f c t:Int):Int:=v / 2 ^ f.toNat%2 ^ c.toNat*2 ^ t.toNat%4294967296
def si(v b:Int):Int:=wrap32 (v*2 ^ (32-b).toNat%4294967296) / 2 ^ (32-b).toNat
def gg(v f c t:Int):0<=bA v f c t/\bA v f c t<=4294967295:=by unfold bA;omega
def dL{k:IntKind}{a b:Int}(h:a=b):Ending.returned (.int k a)=rW (.int k b):=by rw[h]
def Ed(v:Int)(f c t:Nat)(w:AT)(I:0<=v)(H:v<=4294967295)(O:f<=31)(J:c<=31)(U:t<=31):
  Calls prog 300 #[.int .u32 v,.int .u64 f,.int .u64 c,.int .u64 t] w λe w'=>e=rW (.int .u32 (v / 2 ^ f%2 ^ c*2 ^ t%4294967296))/\w'=w:=by
 have E:Hid _:=DD v f c I H J;go_in;go_wp2;go_ret;refine⟨dL ?_,rfl⟩;rw[E.o]
def aO(v f c t:Int)(w:AT)(h:0<=v/\v<=4294967295)(H:0<=f/\f<=31)(J:0<=c/\c<=31)(I:0<=t/\t<=31):
  Calls prog 300 #[.int .u32 v,.int .u64 f,.int .u64 c,.int .u64 t] w λe w'=>e=rW (.int .u32 (bA v f c t))/\w'=w:=by
 obtain⟨F,rfl⟩:=Int.eq_ofNat_of_zero_le H.1;obtain⟨C,rfl⟩:=Int.eq_ofNat_of_zero_le J.1;obtain⟨T,rfl⟩:=Int.eq_ofNat_of_zero_le I.1;exact Ed v F C T w h.1 h.2 o_ o_ o_
def Ee(x:Int)(n:Nat)(H: -2147483648<=x/\x<=2147483647):wrap64 (x / 2 ^ n)=x / 2 ^ n:=by have h:=Int.natAbs_ediv_le_natAbs x (2 ^ n);unfold wrap64;omega
def Hp(a:Int): -2147483648<=wrap32 a/\wrap32 a<=2147483647:=by unfold wrap32;omega
def Kk(v:Int)(b:Nat)(w:AT)(J:0<=v)(I:v<=4294967295)(H:b<=31)(H:1<=b):
  Calls prog 304 #[.int .u32 v,.int .u64 b] w λe w'=>e=rW (V (wrap32 (v*2 ^ (32-b)%4294967296) / 2 ^ (32-b)))/\w'=w:=by
 go_in;go_wp2;go_ret;exact⟨dL (Ee _ _ (Hp _)),rfl⟩
def j4(v b:Int)(w:AT)(h:0<=v/\v<=4294967295)(H:1<=b/\b<=31):
  Calls prog 304 #[.int .u32 v,.int .u64 b] w λe w'=>e=rW (V (si v b))/\w'=w:=by
 obtain⟨B,rfl⟩:=Int.eq_ofNat_of_zero_le (show 0<=b by omega);have e:(32-(B:Int)).toNat=32-B:=o_;unfold si;rw[e];exact Kk v B w h.1 h.2 o_ o_
def yt(a b c:Int)(w:AT)(H:0<=a/\a<=127)(h2:0<=b/\b<=7)(h4:0<=c/\c<=127):
  Calls prog 308 #[.int .u32 a,.int .u32 b,.int .u32 c] w λe w'=>e=rW (.int .u32 (a+b*4096+c*33554432))/\w'=w:=by
 have E:Hid _:=OP a b c H h2 h4;go_in;go_wp2;go_ret;exact⟨dL E.o,rfl⟩
def mvi_0_5_7(v:Int):bA v 0 5 7=v%32*128:=by unfold bA;simp only[Int.reducePow,Int.reduceToNat];omega
def mvi_0_5_15(v:Int):bA v 0 5 15=v%32*32768:=by unfold bA;simp only[Int.reducePow,Int.reduceToNat];omega
def mvi_0_5_20(v:Int):bA v 0 5 20=v%32*1048576:=by unfold bA;simp only[Int.reducePow,Int.reduceToNat];omega
def vk(v:Int):bA v 0 12 20=v%4096*1048576:=by unfold bA;simp only[Int.reducePow,Int.reduceToNat];omega
def vq(v:Int):bA v 0 20 12=v%1048576*4096:=by unfold bA;simp only[Int.reducePow,Int.reduceToNat];omega
def mvi_1_4_8(v:Int):bA v 1 4 8=v / 2%16*256:=by unfold bA;simp only[Int.reducePow,Int.reduceToNat];omega
def mvi_1_10_21(v:Int):bA v 1 10 21=v / 2%1024*2097152:=by unfold bA;simp only[Int.reducePow,Int.reduceToNat];omega
def mvi_5_6_25(v:Int):bA v 5 6 25=v / 32%64*33554432:=by unfold bA;simp only[Int.reducePow,Int.reduceToNat];omega
def yu(v:Int):bA v 5 7 25=v / 32%128*33554432:=by unfold bA;simp only[Int.reducePow,Int.reduceToNat];omega
def yw(v:Int):bA v 7 1 11=v / 128%2*2048:=by unfold bA;simp only[Int.reducePow,Int.reduceToNat];omega
def mvi_7_5_0(v:Int):bA v 7 5 0=v / 128%32:=by unfold bA;simp only[Int.reducePow,Int.reduceToNat];omega
def mvi_8_4_1(v:Int):bA v 8 4 1=v / 256%16*2:=by unfold bA;simp only[Int.reducePow,Int.reduceToNat];omega
def mvi_11_1_7(v:Int):bA v 11 1 7=v / 2048%2*128:=by unfold bA;simp only[Int.reducePow,Int.reduceToNat];omega
def mvi_11_1_20(v:Int):bA v 11 1 20=v / 2048%2*1048576:=by unfold bA;simp only[Int.reducePow,Int.reduceToNat];omega
def vt(v:Int):bA v 12 1 31=v / 4096%2*2147483648:=by unfold bA;simp only[Int.reducePow,Int.reduceToNat];omega
def mvi_12_8_12(v:Int):bA v 12 8 12=v / 4096%256*4096:=by unfold bA;simp only[Int.reducePow,Int.reduceToNat];omega
def vu(v:Int):bA v 12 20 0=v / 4096%1048576:=by unfold bA;simp only[Int.reducePow,Int.reduceToNat];omega
def mvi_15_5_0(v:Int):bA v 15 5 0=v / 32768%32:=by unfold bA;simp only[Int.reducePow,Int.reduceToNat];omega
def mvi_20_1_11(v:Int):bA v 20 1 11=v / 1048576%2*2048:=by unfold bA;simp only[Int.reducePow,Int.reduceToNat];omega
def vv(v:Int):bA v 20 1 31=v / 1048576%2*2147483648:=by unfold bA;simp only[Int.reducePow,Int.reduceToNat];omega
def jA(v:Int):bA v 20 5 0=v / 1048576%32:=by unfold bA;simp only[Int.reducePow,Int.reduceToNat];omega
def vw(v:Int):bA v 20 12 0=v / 1048576%4096:=by unfold bA;simp only[Int.reducePow,Int.reduceToNat];omega
def mvi_21_10_1(v:Int):bA v 21 10 1=v / 2097152%1024*2:=by unfold bA;simp only[Int.reducePow,Int.reduceToNat];omega
def mvi_25_6_5(v:Int):bA v 25 6 5=v / 33554432%64*32:=by unfold bA;simp only[Int.reducePow,Int.reduceToNat];omega
def yz(v:Int):bA v 25 7 5=v / 33554432%128*32:=by unfold bA;simp only[Int.reducePow,Int.reduceToNat];omega
def vy(v:Int):bA v 31 1 12=v / 2147483648%2*4096:=by unfold bA;simp only[Int.reducePow,Int.reduceToNat];omega
def vz(v:Int):bA v 31 1 20=v / 2147483648%2*1048576:=by unfold bA;simp only[Int.reducePow,Int.reduceToNat];omega
def Ef(v:Int)(h:0<=v/\v<=4095):si v 12=if v≥2048 then v-4096 else v:=by unfold si wrap32;simp only[Int.reduceSub,Int.reduceToNat,Int.reducePow];split <;> omega
def Kl(v:Int)(h:0<=v/\v<=8191):si v 13=if v≥4096 then v-8192 else v:=by unfold si wrap32;simp only[Int.reduceSub,Int.reduceToNat,Int.reducePow];split <;> omega
def Km(v:Int)(h:0<=v/\v<=2097151):si v 21=if v≥1048576 then v-2097152 else v:=by unfold si wrap32;simp only[Int.reduceSub,Int.reduceToNat,Int.reducePow];split <;> omega
end
section
open Go.RowKit
variable{s:IF}
def BJ(s:IF):cU s=true↔Ad s:=by simp[cU]
def j5(h:¬Ad s):cU s=false:=by simp[cU,h]
end
end Go.Proofs.YtngnoopnloojjaaGreatDoor
