import Derived.Test.YtjfmapphpijneaaGreatDoorS21
namespace Go.Proofs.YtjfmapphpijneaaGreatDoor
open Go.World List
open Go.Proofs.Tryz Go.RowKit
set_option linter.all false
set_option maxRecDepth 100000
set_option maxHeartbeats 0
variable[Inhabited Pick]
variable{w w':AT}
def Cz{t u:JZ}{I U x2 Z J x5 y0 y1 y2 y3 y4:BY}(h:Below (w.heap.size+1+1) ((w.alloc (.cells #[I,U,x2,Z,J,x5] t)).alloc (.cells #[y0,y1,y2,y3,y4] u)) w'):
  (w'.cell? ⟨w.heap.size,0,none⟩=some I/\w'.cell? ⟨w.heap.size,1,none⟩=some U/\w'.cell? ⟨w.heap.size,2,none⟩=some x2/\w'.cell? ⟨w.heap.size,3,none⟩=some Z/\w'.cell? ⟨w.heap.size,4,none⟩=some J/\w'.cell? ⟨w.heap.size,5,none⟩=some x5) /\
  (w'.cell? ⟨w.heap.size+1,0,none⟩=some y0/\w'.cell? ⟨w.heap.size+1,1,none⟩=some y1/\w'.cell? ⟨w.heap.size+1,2,none⟩=some y2/\w'.cell? ⟨w.heap.size+1,3,none⟩=some y3/\w'.cell? ⟨w.heap.size+1,4,none⟩=some y4):=by
 have e0:(⟨w.heap.size+1,0,none⟩:Addr)=⟨(w.alloc (.cells #[I,U,x2,Z,J,x5] t)).heap.size,0,none⟩:=i_;refine⟨⟨?_,?_,?_,?_,?_,?_⟩,?_,?_,?_,?_,?_⟩ <;> (rw[h.cell (by first|(simp;done)|(simp;omega))];simp)
def lP{a b:Obj}(h:Below (w.heap.size+1+1) ((w.alloc a).alloc b) w'):Bl w w':=
 ((ao _ _).alloc i_ _).trans (h.mono o_)
def gF.alls(h:gF w)(o:Obj):let U:=λ(j:Nat) b=>DO (w.alloc o) 0 j (.bool b);let y:=true;let n:=false;U 5 y/\U 6 n/\U 7 n/\U 8 n/\U 9 n/\U 10 y/\U 11 n/\U 12 n/\U 13 n/\U 14 n/\U 15 y/\U 16 y/\U 17 n/\U 18 n/\U 19 n/\U 20 n/\U 21 n/\U 22 y/\U 23 y/\U 24 n/\U 25 n/\U 26 n/\U 27 y/\U 28 n/\U 29 n/\U 30 n/\U 31 n/\U 32 n/\U 33 n/\U 34 n/\U 35 n/\U 36 n/\U 37 n/\U 38 n/\U 39 n/\U 40 n/\U 41 n/\U 42 n/\U 43 n/\U 44 y:=by and_intros <;> exact h.stmtUp _ o_ o
theorem Af(s:St)(ve vf:BY)(w:AT)(hT:gF w)(Ji:s.e.length<=1048576)(Jj:s.f.length<=1048576)(he:aC w ve s.e)(hf:aC w vf s.f):
    Calls prog 112 #[.agg #[V s.kd,sV s.nm,ve,vf,V s.th,V s.el]] w λe w'=>e=rW (.bool (stmtB s))/\Bl w w':=by
  obtain⟨k,s,I,fs,t,l⟩:=s;simp only at Ji Jj he hf⊢;have HE:=ah he;have HF:=ah hf;obtain⟨ae,ce,rfl,-,-,-⟩:=he;obtain⟨af,cf,rfl,-,-,-⟩:=hf;by_cases hk:1<=k/\k<=8
  case neg=>
    have hs:stmtB ⟨k,s,I,fs,t,l⟩=false:=by have:decide (1<=k/\k<=8)=false:=(IN hk);simp only[stmtB,this,Bool.false_and]
    rw[hs];by_cases h':1<=k
    all_goals
      go_in;go_wp2;go_ret;exact⟨rfl,r_.alloc n_ _⟩
  have HT:=ah hT;have Jf:=HT.o.size;have⟨c5,c6,c7,c8,c9,Jx,Xt,Xl,Xw,Ju,Xu,Xc,Xm,Xa,Xn,Yb,Xi,Xb,Xx,Xy,Js,Xq,Jz,Xf,Jr,Jv,Jt,Xp,Xo,Xs,Xr,Xd,Xh,Ya,Xj,Xe,Jy,Xk,J_,Jw⟩:=hT.alls (.cells #[V k,sV s,.slice ae I.length ce,.slice af fs.length cf,V t,V l] 79);clear hT;have h8:k=1\/k=2\/k=3\/k=4\/k=5\/k=6\/k=7\/k=8:=o_
  clear hk;rcases h8 with rfl|rfl|rfl|rfl|rfl|rfl|rfl|rfl;all_goals
    go_in;go_wp2_with fail;first
    | with_reducible refine(qW _ _).mono ?_
      rintro e w1 ⟨rfl,Jc⟩;generalize hn:bh s=bn
    | with_reducible refine(uv _ _).mono ?_
      rintro e w1 ⟨rfl,Jc⟩;generalize hn:(s.toList == [])=bn
    simp only[Bl,J9]at Jc;have Je:=lP Jc;have⟨⟨Z,x1,J,x3,x4,x5⟩,y0,y1,y2,U,y4⟩:=Cz Jc;cases bn
    · go_wp2
      go_ret;exact⟨ak (by simp only[stmtB];simp[hn]),Je⟩
    go_wp2_with fail;refine(sy _ I _ (HT.o.below Jf Je) Ji (HE.o.below Je)).mono ?_;rintro e w2 ⟨rfl,Jl⟩;have Ja:=Jc.trans (Jl.mono (by have:=Jc.size;simp at this;omega));clear Z x1 J x3 x4 x5 y0 y1 y2 U y4;have Jb:=lP Ja;have⟨⟨Z,x1,J,x3,x4,x5⟩,y0,y1,y2,U,y4⟩:=Cz Ja;cases ho:oneB I
    · go_wp2
      go_ret;exact⟨ak (by simp only[stmtB];simp[hn,ho]),Jb⟩
    first
    | go_wp2_with fail
      with_reducible refine(sy _ fs _ (HT.o.below Jf Jb) Jj (HF.o.below Jb)).mono ?_
      rintro e w3 ⟨rfl,Jn⟩;have Jd:=Ja.trans (Jn.mono (by have:=Ja.size;simp at this;omega));clear Z x1 J x3 x4 x5 y0 y1 y2 U y4 Jb;have Jb:=lP Jd;have⟨⟨Z,x1,J,x3,x4,x5⟩,y0,y1,y2,U,y4⟩:=Cz Jd;cases hf1:oneB fs
      · go_wp2
        go_ret;exact⟨ak (by simp only[stmtB];simp[hn,ho,hf1]),Jb⟩
      have Jg:=ah hf1
    | cases hf1:((fs.length:Int) == 0)
      · have Jm:((fs.length:Int) != 0)=true:=by simp[bne,hf1]
        go_wp2;go_ret;refine⟨ak ?_,Jb⟩;have Jp:¬fs=[]:=(IN hf1);simp only[stmtB];simp[hn,ho,Jp]
      have Jm:((fs.length:Int) != 0)=false:=(by simp[bne,hf1]);have Jg:Hid (fs.length=0):=by show fs.length=0;simpa using hf1
    obtain⟨m,hm⟩:∃m,I.length=m+1:=⟨I.length-1,Ka (tK ho)⟩;obtain⟨X_,Xz,Jh,-,-,Jk⟩:=HE.o.below Jb;have⟨b,Xg,Jq,Jo⟩:=Jk o_;simp only[Value.slice.injEq]at Jh;have⟨d0,d1,d2⟩:=Jo m o_;have HL:Hid (lastKind I=(I[m]'(by omega)).kd):=by have e2:I.length-1=m:=o_;show lastKind I=_;simp only[lastKind,e2];rw[J4 o_]
    rw[Jh.1,Jq,hm]at J;have e1:((m+1:Nat):Int)-1=(m:Int):=o_;have Xv:m<=1048576:=o_;generalize I[m].kd=q at d0 HL;cases hq1:(q == 4) <;> cases ht1:(t == 0)
    all_goals
      have HQ:Hid ((q=4↔(q == 4)=true)/\(t=0↔(t == 0)=true)):=(by show _/\_;simp);go_wp2;go_ret;refine⟨ak ?_,Jb⟩;simp only[stmtB];simp[hn,ho,Jg.o,HL.o,HQ.o.1,HQ.o.2,hq1,ht1]
end Go.Proofs.YtjfmapphpijneaaGreatDoor
