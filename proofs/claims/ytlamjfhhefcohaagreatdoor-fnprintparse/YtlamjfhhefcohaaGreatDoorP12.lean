import Derived.Test.YtlamjfhhefcohaaGreatDoorP08
import Derived.Deep.RegionHeld3
namespace Go.Proofs.YtlamjfhhefcohaaGreatDoor
open Go.Proofs.Tryz
open Go.RowKit
set_option linter.all false
set_option maxRecDepth 100000
set_option maxHeartbeats 16000000
def cW(l:List UInt8)(b:Bool):List UInt8:=if b then 40::l++[41]else l
def ij:List Int:=[10,10,10,9,9,8,8,7,7,7,7,6,6,5,4,3]
def dR:List (List UInt8):=[[42],[47],[37],[43],[45],[60,60],[62,62],[60],[60,61],[62],[62,61],[61,61],[33,61],[38],[94],[124]]
def strN(n:Nd):Int:=if n.kind=9 then 1 else if n.kind=8 then 2 else if n.kind=7 then ij.getD n.val.toNat 0 else 11
def wordN(n:Nd):List UInt8:=if n.kind=9 then[124,124]else if n.kind=8 then[38,38]else dR.getD n.val.toNat []
theorem o6{n:Nd}(h:aB n=true)(h7:n.kind=7):0<=n.val/\n.val<=15:=by
 unfold aB at h;simp[h7]at h;omega
theorem lk(l:List UInt8)(b:Bool)(hl:(l.length:Int)<=1000000000)(w:World):Calls prog 114 #[.string (tx l),.bool b] w fun e w'=>e=.returned (.string (tx (cW l b)))/\w'=w:=by
 have hs:((tx l).size:Int)<=1000000000:=by rw[tx_size];exact hl
 have Jd:(⟨#[40]⟩:ByteArray).size=1:=rfl;have Jc:(⟨#[41]⟩:ByteArray).size=1:=rfl;have hE:(⟨#[40]⟩:ByteArray)++tx l=tx (40::l):=aq [40] l;have Ja:tx (40::l)++(⟨#[41]⟩:ByteArray)=tx (40::l++[41]):=aq (40::l) [41];have Jb:((tx (40::l)).size:Int)<=1000000001:=by rw[tx_size];simp only[l_c];omega
 generalize hA:tx l=A at hs hE⊢;generalize hB:tx (40::l)=B at hE Ja Jb;obtain⟨HA,HE⟩:=h2 hA Ja;clear hA hB Ja;go_enter func114,ntmps114;cases b
 ·go_wp2;go_ret;exact⟨cC (by rw[<-HA.out];rfl),rfl⟩
 ·go_wp2;go_ret;exact⟨cC (by rw[HE.out];rfl),rfl⟩
theorem iM(n:Nd)(hn:aB n=true)(w:World):Calls prog 115 #[.agg #[.int .i64 n.kind,.int .i64 n.val,.string n.name]] w fun e w'=>e=.returned (.int .i64 (strN n))/\Below w.heap.size w w':=by
 have H7:Hid (n.kind=7->0<=n.val/\n.val<=15):=o6 hn;obtain⟨k,v,s⟩:=n;show Calls prog 115 #[.agg #[.int .i64 k,.int .i64 v,.string s]] w _;by_cases h9:k=9
 ·subst h9;go_enter func115,ntmps115;go_wp2;go_ret;exact⟨dl (by simp[strN]),r_.alloc n_ _⟩
 ·by_cases h8:k=8
  ·subst h8;go_enter func115,ntmps115;go_wp2;go_ret;exact⟨dl (by simp[strN]),r_.alloc n_ _⟩
  ·by_cases h7:k=7
   ·subst h7;obtain⟨a,b⟩:=H7.out rfl;simp only at a b;obtain⟨m,rfl⟩:∃m:Nat,v=m:=⟨v.toNat,o_⟩;have hm:m<=15:=o_
    have HS:Hid (strN ⟨7,m,s⟩=ij.getD m 0):=by show _=_;simp[strN]
    have hc:[Value.int IntKind.i64 10,Value.int IntKind.i64 10,Value.int IntKind.i64 10,Value.int IntKind.i64 9,Value.int IntKind.i64 9,Value.int IntKind.i64 8,Value.int IntKind.i64 8,Value.int IntKind.i64 7,Value.int IntKind.i64 7,Value.int IntKind.i64 7,Value.int IntKind.i64 7,Value.int IntKind.i64 6,Value.int IntKind.i64 6,Value.int IntKind.i64 5,Value.int IntKind.i64 4,Value.int IntKind.i64 3][m]? =some (.int .i64 (ij.getD m 0)):=by
     have:m=0∨m=1∨m=2∨m=3∨m=4∨m=5∨m=6∨m=7∨m=8∨m=9∨m=10∨m=11∨m=12∨m=13∨m=14∨m=15:=by omega
     rcases this with rfl|rfl|rfl|rfl|rfl|rfl|rfl|rfl|rfl|rfl|rfl|rfl|rfl|rfl|rfl|rfl <;> simp[ij]
    go_enter func115,ntmps115;go_wp2;go_ret;exact⟨dl HS.out.symm,(aD _ _).alloc i_ _⟩
   ·go_enter func115,ntmps115;go_wp2;go_ret;exact⟨dl (by simp[strN,h7,h8,h9]),r_.alloc n_ _⟩
theorem rV(w:World):Calls prog 151 #[] w fun e w'=>e=.returned (.slice (some ⟨w.heap.size,0,none⟩) 16 16)/\Below w.heap.size w w'/\w.heap.size<w'.heap.size/\∀m,m<16->w'.cell? ⟨w.heap.size,m,none⟩=some (.string (tx (dR.getD m []))):=by
 go_enter func151,ntmps151;go_wp2;go_ret;refine⟨rfl,r_.alloc n_ _,i_,fun m hm=>?_⟩;have:m=0∨m=1∨m=2∨m=3∨m=4∨m=5∨m=6∨m=7∨m=8∨m=9∨m=10∨m=11∨m=12∨m=13∨m=14∨m=15:=by omega
 rcases this with rfl|rfl|rfl|rfl|rfl|rfl|rfl|rfl|rfl|rfl|rfl|rfl|rfl|rfl|rfl|rfl <;> simp[dR,tx]
theorem wg(n:Nd)(hn:aB n=true)(h7:7<=n.kind)(w:World):Calls prog 116 #[.agg #[.int .i64 n.kind,.int .i64 n.val,.string n.name]] w fun e w'=>e=.returned (.string (tx (wordN n)))/\Below w.heap.size w w':=by
 have H7:Hid (n.kind=7->0<=n.val/\n.val<=15):=o6 hn;have hk:=bL hn;obtain⟨k,v,s⟩:=n;show Calls prog 116 #[.agg #[.int .i64 k,.int .i64 v,.string s]] w _;simp only at h7 hk;by_cases h9:k=9
 ·subst h9;go_enter func116,ntmps116;go_wp2;go_ret;exact⟨cC (by simp[wordN,tx]),r_.alloc n_ _⟩
 ·by_cases h8:k=8
  ·subst h8;go_enter func116,ntmps116;go_wp2;go_ret;exact⟨cC (by simp[wordN,tx]),r_.alloc n_ _⟩
  ·have e7:k=7:=o_
   subst e7;obtain⟨a,b⟩:=H7.out rfl;simp only at a b;obtain⟨m,rfl⟩:∃m:Nat,v=m:=⟨v.toNat,o_⟩;have hm:m<16:=o_;have HS:Hid (wordN ⟨7,m,s⟩=dR.getD m []):=by show _=_;simp[wordN]
   go_enter func116,ntmps116;go_wp2_with fail;have Jd:(m:Int)<16:=o_
   go_region_with (first
    | (refine(rV _).mono ?_;rintro e w2 ⟨rfl,Ja,Jc,Jb⟩;simp only[World.size_drew,World.size_alloc]at Ja Jc Jb;have q2:w2.cell? ⟨w.heap.size,1,none⟩=some (.int .i64 m):=(Ja.cell i_).trans i_;have c2:=Jb m hm))
   all_goals go_wp2_with fail
   all_goals go_ret
   all_goals refine⟨cC ?_,(((aD _ _).trans (r_.drew)).trans (Ja.mono o_))⟩
   all_goals (rw[HS.out];rfl)
end Go.Proofs.YtlamjfhhefcohaaGreatDoor
