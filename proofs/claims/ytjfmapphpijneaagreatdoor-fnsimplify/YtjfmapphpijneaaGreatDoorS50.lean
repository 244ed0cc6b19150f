import Derived.Test.YtjfmapphpijneaaGreatDoorS04
import Derived.Test.YtjfmapphpijneaaGreatDoorS12
import Derived.Test.YtjfmapphpijneaaGreatDoorS29
import Derived.Test.YtjfmapphpijneaaGreatDoorS31
import Derived.Test.YtjfmapphpijneaaGreatDoorS13
namespace Go.Proofs.YtjfmapphpijneaaGreatDoor
set_option linter.all false
set_option maxRecDepth 100000
set_option maxHeartbeats 0
open Go.World List Go.Proofs.Tryz Go.RowKit
variable[Inhabited Pick]
def ju(g:Gl):Nat:=if g.size=0 then 1 else g.size.toNat
def yV(w:AT)(cs:Array BY)(t:JZ)(U:cs.size<=10000000):aN (w.alloc (.cells cs t)) w.heap.size cs.toList:=by
 intro j x J;have h:(w.alloc (.cells cs t)).ownsRow w.heap.size t 1 (rV w.heap.size cs.size cs.size) cs.size cs.toList:=ownsRow_lit w cs cs.size n_ (by unfold maxLen;omega) o_;have I:=ownsRow.cells h (g:=w.heap.size) rfl j x J;have e:(⟨w.heap.size,0,none⟩:Addr).add j=⟨w.heap.size,j,none⟩:=by simp[Addr.add];try (intro h;omega)
 rw[e]at I;refine⟨I,?_⟩;rcases h.2 with⟨e,-⟩|⟨g,Jb,Ja,e,h3,h4,h5⟩;simp at e;simp only[Value.slice.injEq,J0,Addr.mk.injEq]at e;obtain⟨⟨rfl,-,-⟩,-,-⟩:=e;unfold frozen?;simp only[h4];simp
def IZ(n:Nat):List BY:=List.replicate n (V 0)
def Fi(g:Gl):List Int:=List.replicate (ju g) 0
def sL(t:Tr)(i:List Int)(F:Int):ES:=⟨t.gl.map Fi,[],i,[],F.toNat,0,0⟩
def Fj(g:Gl):(Fi g).length=ju g:=by simp[Fi]
def Fk(g:Gl):(Fi g).map (Value.int .i64)=IZ (ju g):=by simp[Fi,IZ]
def dg:ER->Int
 | .inl v =>v
 | .inr (.inr (.inl v)) =>v
 | _=>0
def Ju:ER->Int
 | .inr (.inr (.inr c)) =>c
 | _=>1
def rA:(prog.info? 2).map (λi=>(i.zero,i.size,i.bytes))=some (some (V 0),1,8):=by kernel_rfl
def pC(N:Nat)(Z:N<=4000)(W:AT):(Instr.makeSlice 34 (V (N:Int)) (V (N:Int))).run prog W=.ok (rV W.heap.size N N) (W.alloc (.cells (Array.replicate N (V 0)) 2)):=by
 have⟨I,J,Jb,Jc,Ja⟩:=info_parts rA;have h:=run_make (P:=prog) W 34 2 I (V 0) underlying34 J Jb .i64 .i64 (N:Int) (N:Int) o_ (Int.le_refl _) (by rw[Ja];omega) o_;rw[Jc]at h;have e:madeCells (Value.int .i64 0).cells ((N:Int).toNat*1)=Array.replicate N (V 0):=by apply Array.ext;simp[madeCells];intro i U h2;simp[madeCells,Value.cells,Nat.mod_one]
 rw[e,Int.toNat_natCast]at h;exact h
structure RC where
 w0:AT
 t:Tr
 fr:List Int
 vg:BY
 vf:BY
 vFr:BY
 P:Nat
 bG:Nat
 ga:Option Addr
 gc:Nat
 gb:List Nat
 F:Int
def nL(w0:AT)(v:BY)(l:List Int):Prop:=∃a c,v=.slice a l.length c/\l.length<=c/\c<=9223372036854775807/\(0<l.length->∃b off,a=some ⟨b,off,none⟩/\∀j (h:j<l.length),w0.cell? ⟨b,off+j,none⟩=some (V l[j]))
def CV{gs:List Gl}{x:Io}(h:∀j (hj:j<gs.length),gs[j].nm≠x):i7 gs x=none:=by unfold i7;rw[findIdx?_eq_none_iff];intro y I;obtain⟨j,hj,rfl⟩:=getElem_of_mem I;simpa using h j hj
def pD{α:Type}{l:List α}(h:l.Nodup){i j:Nat}(J:i<l.length)(I:j<l.length)(e:l[i]=l[j]):i=j:=by rcases Nat.lt_trichotomy i j with h1|h1|h1;exact absurd e ((pairwise_iff_getElem.1 h) i j J I h1);exact h1;exact absurd e.symm ((pairwise_iff_getElem.1 h) j i I J h1)
def Tk.d:Tk->Nat
 | .inr (.inl (_, _, _)) =>1
 | _=>0
def Ou(d:Nat)(s s':ES):Prop:=s'.u<=s.u/\s'.o.length+s'.u<=s.o.length+s.u+d/\s'.l.length+s'.u<=s.l.length+s.u+d
def Ou.refl(s:ES):Ou 0 s s:=⟨n_,n_,n_⟩
def Ou.trans{d e:Nat}{a b c:ES}(h:Ou d a b)(h':Ou e b c):Ou (d+e) a c:=⟨t_ h'.1 h.1,Ia h.2.1 h'.2.1,Ia h.2.2 h'.2.2⟩
def Ou.more{d e:Nat}{a b:ES}(h:Ou d a b)(hd:d<=e):Ou e a b:=⟨h.1,Ka h.2.1,Ka h.2.2⟩
def Ou.sp(s:ES):Ou 0 s s.sp:=⟨by simp only[ES.sp];omega,by simp only[ES.sp];omega,by simp only[ES.sp];omega⟩
def Ou.paid{s s':ES}(J:0<s.u)(h:Ou 1 s.sp s'):Ou 0 s s':=by obtain⟨I,h2,h3⟩:=h;simp only[ES.sp]at I h2 h3;exact⟨o_,o_,o_⟩
def Ou.same{s s':ES}(hu:s'.u=s.u)(ho:s'.o=s.o)(hl:s'.l.length=s.l.length):Ou 0 s s':=⟨o_,by rw[ho];omega,o_⟩
theorem lV{st:Nat->ES}{j:Nat}(h:∀i,i<j->Ou 0 (st i) (st (i+1))):∀i,i<=j->Ou 0 (st 0) (st i)
 | 0,_=>.refl _
 | i+1,hi=>(lV h i o_).trans (h i o_)
theorem Ev.ou{t:Tr}{fr:List Int}{n:Nat}{k:Tk}{s:ES}{r:ER}{s':ES}(h:Ev t fr n k s r s'):Ou k.d s s':=by
 induction h using Ev_i with
 | kid n e A b st v j c s' h1 h2 h3 h4 h5 h6 i5 i6=>exact(lV (j:=j) i5 j n_).trans i6
 | dry n e A b st v h1 h2 h3 h4 h5 i4=>exact lV (j:=A) i4 A n_
 | work n e A b st v h1 h2 h3 h4 h5 h6 i5=>have⟨y1,y2,y3,y4,y5⟩:=yz t (aq e) v (st A).sp;exact((lV (j:=A) i5 A n_).trans (.sp _)).trans (.same (wL ..) y4 (by rw[y3]))
 | call n e A b st v f r s' h1 h2 h3 h4 h5 h6 i4 i6=>exact((lV (j:=A) i4 A n_).trans (.sp _)).trans i6
 | decl n s a b z v z' h1 h2 i2=>
  obtain⟨I,U,Z⟩:=i2;simp only[Tk.d]at*;refine⟨I,?_,?_⟩;show z'.o.length+z'.u<=_;omega
  show(z'.l++[(s.nm,v)]).length+z'.u<=_;simp;omega
 | set n s a b z v z' h1 h2 i2=>have J:=oL (t:=t) (s:=z') (x:=s.nm) (v:=v);exact(i2.trans (.same (GG ..) J.2.2.2.1 (by have:=congrArg List.length J.2.2.1;simpa using this))).more (by simp[Tk.d])
 | stor n s a b z v z1 x z' h1 h2 h3 h4 i2 i3=>have J:=ue (t:=t) (s:=z') (x:=s.nm) (j:=v.toNat) (v:=x);exact((i2.trans i3).trans (.same (GH ..) J.2.2.2.1 (by rw[J.2.2.1]))).more (by simp[Tk.d])
 | whag n s a b z v z1 z2 r z' h1 h2 h3 h4 h5 h6 i2 i4 i6=>exact((i2.trans i4).trans (Ou.paid h5 i6)).more (by simp[Tk.d])
 | tell n s a b z v z' h1 h2 i2=>
  obtain⟨I,U,Z⟩:=i2;simp only[Tk.d]at*;refine⟨I,?_,?_⟩
  show(z'.o++[v]).length+z'.u<=_;simp;omega
  show z'.l.length+z'.u<=_;omega
 | send n s q z r z' h1 h2 h3 i2=>exact Ou.paid h1 i2
 | next n s q z z1 r z' h1 h2 h3 i2 i3=>exact(Ou.paid h1 i2).trans i3
 | blk n ss z r z' h1 i1=>obtain⟨I,U,Z⟩:=i1;simp only[Tk.d]at*;refine⟨I,U,?_⟩;show(z'.l.take z.l.length).length+z'.u<=_;simp;omega
 | run n f vs z hf r z' h1 i1=>obtain⟨I,U,Z⟩:=i1;exact⟨I,U,by show z.l.length+z'.u<=_;have:z'.u<=z.u:=I;omega⟩
 | _=>first|exact .refl _|(rename_i i w;first|exact i|exact i.trans (.sp _)|exact i.more (by simp[Tk.d]))|(rename_i i j w;first|exact(i.trans (.sp _)).trans j|exact((i.trans (.sp _)).trans j).trans (.sp _)|exact(i.trans j).more (by simp[Tk.d]))
section
variable{t:Tr}{s:ES}
def Hd{n:Nd}{v:Nat->Int}{c:Int}(h:(gv t n v s).1=.out c):c=3:=by
 revert h
 unfold gv
 (repeat' split) <;> simp <;> (intro h;exact h.symm)
theorem Ev.outc{fr:List Int}{n:Nat}{k:Tk}{r:ER}{s':ES}(h:Ev t fr n k s r s'):∀c,r=.out c->c=2\/c=3:=by
 induction h using Ev_i with
 | run n f vs z hf r z' h1 i1=>intro c I;cases r using ER.cs <;> simp[ER.back]at I;exact i1 c (by rw[I])
 | _=>first|(intro c I;cases I;done)|(intro c I;cases I;exact .inl rfl)|(intro c I;cases I;exact .inr rfl)|(rename_i i w;exact i)|(intro c I;exact .inr (Hd I))
end
def nL.tail{w0:AT}{a:Option Addr}{c:Nat}{x:Int}{r:List Int}(h:nL w0 (.slice a (x::r).length c) (x::r)):nL w0 (.slice (if c=1 then a else a.map (·.add (1*1))) r.length (c-1)) r:=by
 obtain⟨U,c',e,I,h2,h3⟩:=h;simp only[Value.slice.injEq,true_and]at e;obtain⟨rfl,rfl⟩:=e;simp only[l_c]at I;refine⟨_,_,rfl,o_,o_,λhp=>?_⟩;obtain⟨b,Ja,rfl,J⟩:=h3 i_;refine⟨b,Ja+1,?_,λj hj=>?_⟩;rw[if_neg o_];simp[Addr.add]
 have:=J (j+1) (IN hj)
 rw[show Ja+1+j=Ja+(j+1) by omega];simpa using this
def CW(a:Option Addr)(n cap:Nat)(h2:1<=n)(h3:n<=cap):∀w:AT,(Instr.slice 34 (.slice a n cap) (some (V 1)) none none).run prog w=.ok (.slice (if cap=1 then a else a.map (·.add (1*1))) (n-1) (cap-1)) w:=by intro w;have h:prog.elem 34=2:=k_;have I:(sizeOf 2).run prog w=.ok 1 w:=k_;rw[run_slice_l w 34 a n cap (by rw[h];exact underlying34) .i64 1 o_ o_,h,I];simp only[Result.andThen,sliced];rfl
def AL(i:Nat)(v:Nat->Int):e_ (i+1) v=e_ i v++[v i]:=by simp[e_,range_succ]
def uT(i:Nat)(v:Nat->Int):(e_ i v).length=i:=by simp[e_]
section
variable{C:RC}{lb:List Nat}{w w3:AT}{c vl v:Int}{rt:Bool}{vL vI vO:BY}{s s':ES}
end
section
variable{gs:List Gl}{gb:List Nat}{w1 w W:AT}{P:Nat}{vG:BY}
end
section
variable{C:RC}{w:AT}{lb:List Nat}{vL vO:BY}{n:Nat}
theorem CX{t:Tr}{fr:List Int}{s:St}{a b:List St}{z:ES}{r:ER}{I:ES}(h:Ev t fr (n+1) (.p s a b) z r I)(J:s.kd=3):(∃c,r=.out c/\Ev t fr n (.e s.e) z (.out c) I)\/∃v z1,Ev t fr n (.e s.e) z (.val v) z1/\((∃c,r=.out c/\Ev t fr n (.e s.f) z1 (.out c) I)\/∃x z2,Ev t fr n (.e s.f) z1 (.val x) z2/\((¬(0<=v/\v<(z2.ws t s.nm).length)/\r=.out 3/\I=z2)\/((0<=v/\v<(z2.ws t s.nm).length)/\r=.on/\I=z2.st t s.nm v.toNat x))):=by
 cases h using Ev_i with
 | pbad _ _ _ _ _ c _ h1=>exact .inl ⟨c,rfl,h1⟩
 | sbad _ _ _ _ _ v z1 c _ h1 h2 h3=>exact .inr ⟨v,z1,h2,.inl ⟨c,rfl,h3⟩⟩
 | smis _ _ _ _ _ v z1 x _ h1 h2 h3 h4=>exact .inr ⟨v,z1,h2,.inr ⟨x,_,h3,.inl ⟨h4,rfl,rfl⟩⟩⟩
 | stor _ _ _ _ _ v z1 x _ h1 h2 h3 h4=>exact .inr ⟨v,z1,h2,.inr ⟨x,_,h3,.inr ⟨h4,rfl,rfl⟩⟩⟩
 | decl _ _ _ _ _ _ _ h1=>omega
 | set _ _ _ _ _ _ _ h1=>omega
 | ifth _ _ _ _ _ _ _ _ _ h1=>omega
 | ifel _ _ _ _ _ _ _ _ h1=>omega
 | whno _ _ _ _ _ _ h1=>omega
 | whn _ _ _ _ _ _ _ _ _ h1=>omega
 | whdr _ _ _ _ _ _ _ _ h1=>omega
 | whag _ _ _ _ _ _ _ _ _ _ h1=>omega
 | retn _ _ _ _ _ _ _ h1=>omega
 | tell _ _ _ _ _ _ _ h1=>omega
 | only _ _ _ _ _ _ _ h1=>omega
end
section
variable{n:Nat}{C:RC}{w:AT}{vl:Int}{lb:List Nat}{vL vI vO:BY}{s:ES}
def Wh(t:Tr)(fr:List Int)(n:Nat)(s:St)(a b:List St)(v:Int)(z1:ES)(r:ER)(z':ES):Prop:=(v=0/\r=.on/\z'=z1)\/(v≠0/\∃rb zb,Ev t fr n (.bl a) z1 rb zb/\((rb ≠ .on/\r=rb/\z'=zb)\/(rb=.on/\zb.u=0/\r=.out 2/\z'=zb)\/(rb=.on/\0<zb.u/\Ev t fr n (.p s a b) zb.sp r z')))
theorem Fl{t:Tr}{fr:List Int}{s:St}{a b:List St}{z:ES}{r:ER}{I:ES}(h:Ev t fr (n+1) (.p s a b) z r I)(J:s.kd≠3):(∃c,r=.out c/\Ev t fr n (.e s.e) z (.out c) I)\/∃v z1,Ev t fr n (.e s.e) z (.val v) z1/\((s.kd=1/\r=.on/\I={z1 with l:=z1.l++[(s.nm,v)]})\/(s.kd=2/\r=.on/\I=z1.wr t s.nm v)\/(s.kd=6/\r=.ret v/\I=z1)\/(s.kd=7/\r=.on/\I={z1 with o:=z1.o++[v]})\/(s.kd=8/\r=.on/\I=z1)\/(s.kd=4/\(v≠0/\Ev t fr n (.bl a) z1 r I\/v=0/\Ev t fr n (.bl b) z1 r I))\/(s.kd=5/\Wh t fr n s a b v z1 r I)):=by
 cases h using Ev_i with
 | pbad _ _ _ _ _ c _ h1=>exact .inl ⟨c,rfl,h1⟩
 | sbad _ _ _ _ _ v z1 c _ h1 h2 h3=>exact absurd h1 J
 | smis _ _ _ _ _ v z1 x _ h1 h2 h3 h4=>exact absurd h1 J
 | stor _ _ _ _ _ v z1 x _ h1 h2 h3 h4=>exact absurd h1 J
 | decl _ _ _ _ _ v z1 h1 h2=>exact .inr ⟨v,z1,h2,.inl ⟨h1,rfl,rfl⟩⟩
 | set _ _ _ _ _ v z1 h1 h2=>exact .inr ⟨v,z1,h2,.inr (.inl ⟨h1,rfl,rfl⟩)⟩
 | ifth _ _ _ _ _ v z1 _ _ h1 h2 h3 h4=>exact .inr ⟨v,z1,h2,.inr (.inr (.inr (.inr (.inr (.inl ⟨h1,.inl ⟨h3,h4⟩⟩)))))⟩
 | ifel _ _ _ _ _ z1 _ _ h1 h2 h3=>exact .inr ⟨0,z1,h2,.inr (.inr (.inr (.inr (.inr (.inl ⟨h1,.inr ⟨rfl,h3⟩⟩)))))⟩
 | whno _ _ _ _ _ z1 h1 h2=>exact .inr ⟨0,_,h2,.inr (.inr (.inr (.inr (.inr (.inr ⟨h1,.inl ⟨rfl,rfl,rfl⟩⟩)))))⟩
 | whn _ _ _ _ _ v z1 _ _ h1 h2 h3 h4 h5=>exact .inr ⟨v,z1,h2,.inr (.inr (.inr (.inr (.inr (.inr ⟨h1,.inr ⟨h3,_,_,h4,.inl ⟨h5,rfl,rfl⟩⟩⟩)))))⟩
 | whdr _ _ _ _ _ v z1 _ h1 h2 h3 h4 h5=>exact .inr ⟨v,z1,h2,.inr (.inr (.inr (.inr (.inr (.inr ⟨h1,.inr ⟨h3,_,_,h4,.inr (.inl ⟨rfl,h5,rfl,rfl⟩)⟩⟩)))))⟩
 | whag _ _ _ _ _ v z1 z2 _ _ h1 h2 h3 h4 h5 h6=>exact .inr ⟨v,z1,h2,.inr (.inr (.inr (.inr (.inr (.inr ⟨h1,.inr ⟨h3,_,_,h4,.inr (.inr ⟨rfl,h5,h6⟩)⟩⟩)))))⟩
 | retn _ _ _ _ _ v z1 h1 h2=>exact .inr ⟨v,_,h2,.inr (.inr (.inl ⟨h1,rfl,rfl⟩))⟩
 | tell _ _ _ _ _ v z1 h1 h2=>exact .inr ⟨v,z1,h2,.inr (.inr (.inr (.inl ⟨h1,rfl,rfl⟩)))⟩
 | only _ _ _ _ _ v z1 h1 h2=>exact .inr ⟨v,_,h2,.inr (.inr (.inr (.inr (.inl ⟨h1,rfl,rfl⟩))))⟩
end
