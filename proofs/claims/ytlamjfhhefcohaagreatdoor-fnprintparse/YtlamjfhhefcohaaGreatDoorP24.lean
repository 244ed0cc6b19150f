import Derived.Test.YtlamjfhhefcohaaGreatDoorP02
import Derived.Lib.ItoaNum
namespace Go.Proofs.YtlamjfhhefcohaaGreatDoor
set_option linter.all false
set_option maxRecDepth 100000
set_option maxHeartbeats 16000000
structure Lm where
 k:Int
 x:List UInt8
 v:Int
def sy(x:List UInt8):Lm:=⟨3,x,0⟩
def wd(x:List UInt8):Lm:=⟨1,x,0⟩
def bk(x:List UInt8):Lm:=⟨0,x,0⟩
def nu(v:Int):Lm:=⟨2,Lib.itoa v,v⟩
def tL(ps:List Lm):List UInt8:=ps.flatMap (·.x)
def aV(ps:List Lm):List Lm:=ps.filter fun p=>decide (p.k≠0)
theorem tL_app(a b:List Lm):tL (a++b)=tL a++tL b:=by simp[tL]
theorem tL_cons(p:Lm)(r:List Lm):tL (p::r)=p.x++tL r:=by simp[tL]
theorem tkn_app(a b:List Lm):aV (a++b)=aV a++aV b:=by simp[aV]
theorem tkn_sy(x:List UInt8)(r:List Lm):aV (sy x::r)=sy x::aV r:=by simp[aV,sy]
theorem tkn_wd(x:List UInt8)(r:List Lm):aV (wd x::r)=wd x::aV r:=by simp[aV,wd]
theorem tkn_nu(v:Int)(r:List Lm):aV (nu v::r)=nu v::aV r:=by simp[aV,nu]
theorem tkn_bk(x:List UInt8)(r:List Lm):aV (bk x::r)=aV r:=by simp[aV,bk]
theorem tkn_nil:aV []=[]:=rfl
def mJ(c:UInt8):Bool:=decide (c∈[61,33,60,62,38,124])
def uW(p q:Lm):Prop:=p.k≠0->q.k≠0->(p.k=3∨q.k=3)/\(p.k=3->(p.x.head?.map mJ).getD false=false∨(p.x=[33]/\q.x.head? ≠ some 61))
def OkW(x:List UInt8):Prop:=x≠[]/\x.length<=20/\(x.head?.map cG).getD false=true/\∀c∈x,cJ c=true
structure Lm.ok (p:Lm):Prop where
 kd:p.k=0∨p.k=1∨p.k=2∨p.k=3
 bl:p.k=0->p.x≠[]/\∀c∈p.x,dy c=true
 wo:p.k=1->OkW p.x
 nm:p.k=2->p.x=Lib.itoa p.v/\0<=p.v/\p.v<=2147483647
 sm:p.k=3->p.x∈ew∨p.x∈fK.map (fun c=>[c])
def Ch:List Lm->Prop
 | []=>True
 | [p]=>p.ok
 | p::q::r=>p.ok/\uW p q/\Ch (q::r)
theorem lC:∀(a b:List Lm),Ch a->Ch b->(∀p q,a.getLast? =some p->b.head? =some q->uW p q)->Ch (a++b)
 | [],b,_,hb,_=>hb
 | [p],[],ha,_,_=>ha
 | [p],q::r,ha,hb,h=>⟨ha,h p q rfl rfl,hb⟩
 | p::q::r,b,ha,hb,h=>⟨ha.1,ha.2.1,lC (q::r) b ha.2.2 hb (fun p' q' h1 h2=>h p' q' (by rw[List.getLast?_cons_cons];exact h1) h2)⟩
theorem Ch.tail{p:Lm}{r:List Lm}(h:Ch (p::r)):Ch r:=by
 cases r with
 | nil=>trivial
 | cons q r=>exact h.2.2
theorem Ch.head{p:Lm}{r:List Lm}(h:Ch (p::r)):p.ok:=by
 cases r with
 | nil=>exact h
 | cons q r=>exact h.1
theorem Ch.sep{p q:Lm}{r:List Lm}(h:Ch (p::q::r)):uW p q:=h.2.1
theorem AU{x:List UInt8}(h:x∈ew∨x∈fK.map (fun c=>[c])):(sy x).ok:=⟨by simp[sy],by simp[sy],by simp[sy],by simp[sy],fun _=>h⟩
theorem iy{x:List UInt8}(h:OkW x):(wd x).ok:=⟨by simp[wd],by simp[wd],fun _=>h,by simp[wd],by simp[wd]⟩
theorem sn{x:List UInt8}(h:x≠[]/\∀c∈x,dy c=true):(bk x).ok:=⟨by simp[bk],fun _=>h,by simp[bk],by simp[bk],by simp[bk]⟩
theorem AV{v:Int}(h0:0<=v)(h1:v<=2147483647):(nu v).ok:=⟨by simp[nu],by simp[nu],by simp[nu],fun _=>⟨rfl,h0,h1⟩,by simp[nu]⟩
theorem qH(u:Nat):numL (Lib.decDigits u)=u/\(∀c∈Lib.decDigits u,aO c=true)/\Lib.decDigits u≠[]/\(u≠0->(Lib.decDigits u).head? ≠ some 48)/\(u=0->Lib.decDigits u=[48]):=by
 have hd:∀k:Nat,k<10->(UInt8.ofNat (48+k)).toNat=48+k:=fun k hk=>by rw[UInt8.toNat_ofNat'];omega
 have hg:∀k:Nat,k<10->aO (UInt8.ofNat (48+k))=true:=fun k hk=>by
  unfold aO digitB cI;rw[hd k hk];simp;omega
 induction u using Nat.strongRecOn with
 | ind u ih=>
  rw[Lib.decDigits];by_cases h:u<10
  ·rw[dif_pos h];refine⟨?_,fun c hc=>?_,i_,fun h0 he=>?_,fun h0=>by subst h0;rfl⟩
   ·show 10*0+((UInt8.ofNat (48+u)).toNat-48)=u;rw[hd u h];omega
   ·rw[List.mem_singleton.1 hc];exact hg u h
   ·simp only[List.head?_cons,Option.some.injEq]at he;have:=congrArg UInt8.toNat he
    rw[hd u h]at this;simp at this;omega
  ·rw[dif_neg h];obtain⟨i1,i2,i3,i4,i5⟩:=ih (u / 10) o_;refine⟨?_,fun c hc=>?_,i_,fun h0=>?_,fun h0=>by omega⟩
   ·rw[jM,i1,hd _ (Nat.mod_lt _ d_)];omega
   ·rcases List.mem_append.1 hc with hc|hc
    ·exact i2 c hc
    ·rw[List.mem_singleton.1 hc];exact hg _ (Nat.mod_lt _ d_)
   ·rw[List.head?_append];cases hh:(Lib.decDigits (u / 10)).head? with
    | none=>rw[List.head?_eq_none_iff]at hh;exact absurd hh i3
    | some c=>simpa[hh]using i4 o_
theorem lD{p:UInt8->Bool}:∀(a b:List UInt8),(∀c∈a,p c=true)->(b.head?.map p).getD false=false->(a++b).takeWhile p=a
 | [],b,_,h=>by
  cases b with
  | nil=>rfl
  | cons c r=>simp only[List.head?_cons,Option.map_some,Option.getD_some]at h;simp[List.takeWhile_cons,h]
 | c::a,b,ha,h=>by
  rw[List.cons_append,List.takeWhile_cons,if_pos (ha c List.mem_cons_self),lD a b (fun d hd=>ha d (m_ _ hd)) h]
def Tm(t:To)(p:Lm):Prop:=t.kind=p.k/\(p.k=2->t.num=p.v)/\(p.k≠2->t.text=tx p.x)
theorem zO{c:UInt8}(h:aO c=true):cG c=false:=by
 unfold aO digitB at h;unfold cG smallB;simp at h⊢;omega
theorem pD{x:List UInt8}(h:x∈ew∨x∈fK.map (fun c=>[c])):∃c r,x=c::r/\cG c=false/\aO c=false/\cJ c=false/\dy c=false:=by
 have h1:x∈ew++fK.map (fun c=>[c]):=List.mem_append.2 h;have Ja:∀y∈ew++fK.map (fun c=>[c]),((y.head?.map fun c=>(!cG c && !aO c)&&(!cJ c && !dy c)).getD false)=true:=d_
 have:=Ja x h1
 cases x with
 | nil=>simp at this
 | cons c r=>simp at this;exact⟨c,r,rfl,this.1.1,this.1.2,this.2.1,this.2.2⟩
theorem ur{c d:UInt8}(h:[c,d]∈ew):mJ c=true/\(c=33->d=61):=by
 have Ja:∀y∈ew,((y.head?.map mJ).getD false)=true/\(y.head? =some 33->y.getD 1 0=61):=d_
 have:=Ja _ h
 simpa using this
theorem nP{c:UInt8}(h:dy c=true):cJ c=false:=by
 unfold dy at h;simp at h;rcases h with rfl|rfl <;> decide
theorem gO{q:Lm}{r:List Lm}(h:Ch (q::r)):∃c s,q.x=c::s/\(q.k=0->dy c=true)/\(q.k≠0->dy c=false)/\(q.k=0∨q.k=3->cJ c=false):=by
 have hq:=h.head;rcases hq.kd with k|k|k|k
 ·obtain⟨h1,h2⟩:=hq.bl k;cases hx:q.x with
  | nil=>exact absurd hx h1
  | cons c s=>
   have hb:=h2 c (by rw[hx];exact List.mem_cons_self);exact⟨c,s,rfl,fun _=>hb,fun h=>absurd k h,fun _=>nP hb⟩
 ·obtain⟨h1,h2,h3,h4⟩:=hq.wo k;cases hx:q.x with
  | nil=>exact absurd hx h1
  | cons c s=>
   have hl:=h4 c (by rw[hx];exact List.mem_cons_self);have Ja:dy c=false:=by
    cases hb:dy c with
    | false=>rfl
    | true=>rw[nP hb]at hl;cases hl
   exact⟨c,s,rfl,fun h=>by omega,fun _=>Ja,fun h=>by omega⟩
 ·obtain⟨h1,h2,h3⟩:=hq.nm k;obtain⟨d1,d2,d3,-,-⟩:=qH q.v.toNat;rw[Lib.itoa,if_neg o_]at h1;cases hx:q.x with
  | nil=>rw[hx]at h1;exact absurd h1.symm d3
  | cons c s=>
   have hg:=d2 c (by rw[<-h1,hx];exact List.mem_cons_self);have Ja:dy c=false:=by
    cases hb:dy c with
    | false=>rfl
    | true=>
     have:=nP hb
     unfold cJ de at this;rw[show digitB (cI c)=true from hg]at this;simp at this
   exact⟨c,s,rfl,fun h=>by omega,fun _=>Ja,fun h=>by omega⟩
 ·obtain⟨c,s,hx,-,-,h4,h5⟩:=pD (hq.sm k);exact⟨c,s,hx,fun h=>by omega,fun _=>h5,fun _=>h4⟩
theorem AW{p:Lm}{r:List Lm}(h:Ch (p::r))(hk:p.k=1∨p.k=2):((tL r).head?.map cJ).getD false=false:=by
 cases r with
 | nil=>rfl
 | cons q r=>
  obtain⟨c,s,hx,-,-,h4⟩:=gO h.tail;rw[tL_cons,hx];simp only[List.cons_append,List.head?_cons,Option.map_some,Option.getD_some];refine h4 ?_;by_cases h0:q.k=0
  ·exact .inl h0
  ·have:=(h.sep o_ h0).1
   omega
theorem DU{p:Lm}{r:List Lm}(h:Ch (p::r))(hk:p.k=3):bD (p.x++tL r)=p.x:=by
 unfold bD;rcases h.head.sm hk with h2|h1
 ·have hl:∀y∈ew,y.length=2:=d_
  have e:(p.x++tL r).take 2=p.x:=by
   rw[<-hl _ h2];simp
  rw[e,if_pos h2]
 ·obtain⟨c,hc,hx⟩:=List.mem_map.1 h1;rw[<-hx]at h1⊢;have e1:([c]++tL r).take 1=[c]:=i_
  have e2:([c]++tL r).take 2∉ew:=by
   cases r with
   | nil=>
    intro hm;have hl:∀y∈ew,y.length=2:=d_
    have:=hl _ hm
    simp[tL]at this
   | cons q r=>
    obtain⟨d,s,hq,b0,-,-⟩:=gO h.tail;rw[tL_cons,hq];intro hm;have Ja:[c,d]∈ew:=hm;obtain⟨m1,m2⟩:=ur Ja;by_cases h0:q.k=0
    ·have hb:=b0 h0;have Jb:∀y∈ew,dy (y.getD 1 0)=false:=d_
     have:=Jb _ Ja
     simp only[List.getD_cons_succ,List.getD_cons_zero]at this;rw[hb]at this;cases this
    ·rcases(h.sep o_ h0).2 hk with hs|⟨hs,ht⟩
     ·rw[<-hx]at hs;simp only[List.head?_cons,Option.map_some,Option.getD_some]at hs;rw[m1]at hs;cases hs
     ·rw[<-hx]at hs;simp only[List.cons.injEq,and_true]at hs;rw[hq,m2 hs]at ht;exact ht rfl
  rw[if_neg e2,e1,if_pos h1]
theorem ut{p:Lm}{r:List Lm}(h:Ch (p::r))(hk:p.k≠0)(e:Nat):Tm (bZ (p.x++tL r) e).1 p/\(bZ (p.x++tL r) e).2=p.x.length:=by
 have hp:=h.head;rcases hp.kd with k|k|k|k
 ·exact absurd k hk
 ·obtain⟨h1,h2,h3,h4⟩:=hp.wo k;have ht:=lD p.x (tL r) h4 (AW h (.inl k));cases hx:p.x with
  | nil=>exact absurd hx h1
  | cons c s=>
   rw[hx]at ht h3 h2;simp only[List.head?_cons,Option.map_some,Option.getD_some]at h3;have e1:bZ (c::s++tL r) e=(⟨1,tx (c::s),0,e⟩,(c::s).length):=by
    show bZ (c::(s++tL r)) e=_;unfold bZ;simp only[h3,if_true];rw[show c::(s++tL r)=c::s++tL r from rfl,ht,if_neg o_]
   rw[e1];exact⟨⟨k.symm,fun h=>by omega,fun _=>by rw[hx]⟩,rfl⟩
 ·obtain⟨h1,h2,h3⟩:=hp.nm k;obtain⟨d1,d2,d3,d4,d5⟩:=qH p.v.toNat;rw[Lib.itoa,if_neg o_]at h1;rw[<-h1]at d1 d2 d3 d4 d5;have hr:=AW h (.inr k);have Ja:((tL r).head?.map aO).getD false=false/\((tL r).head?.map cG).getD false=false:=by
   cases hh:(tL r).head? with
   | none=>simp
   | some d=>
    rw[hh]at hr;simp only[Option.map_some,Option.getD_some]at hr⊢;unfold cJ de at hr;simp only[Bool.or_eq_false_iff]at hr;exact⟨hr.2,hr.1⟩
  have ht:=lD p.x (tL r) d2 Ja.1;cases hx:p.x with
  | nil=>exact absurd hx d3
  | cons c s=>
   have hg:=d2 c (by rw[hx];exact List.mem_cons_self);rw[hx]at ht d1 d4 d5;have Jb:¬((c=48/\1<((c::s++tL r).takeWhile aO).length)∨2147483647<numL ((c::s++tL r).takeWhile aO)∨(((c::s++tL r).drop ((c::s++tL r).takeWhile aO).length).head?.map cG).getD false=true):=by
    rw[ht,d1,List.drop_left];rintro(⟨rfl,hl⟩|hl|hl)
    ·by_cases h0:p.v.toNat=0
     ·have:=d5 h0
      simp only[List.cons.injEq,true_and]at this;subst this;simp at hl
     ·exact d4 h0 rfl
    ·omega
    ·rw[Ja.2]at hl;cases hl
   have e1:bZ (c::s++tL r) e=(⟨2,tx [],(numL (c::s):Int),e⟩,(c::s).length):=by
    show bZ (c::(s++tL r)) e=_;unfold bZ;simp only[zO hg,hg,if_true];rw[show c::(s++tL r)=c::s++tL r from rfl,if_neg Jb,ht];rfl
   rw[e1];exact⟨⟨k.symm,fun _=>by show(numL (c::s):Int)=p.v;rw[d1];omega,fun h=>absurd k h⟩,rfl⟩
 ·have hs:=DU h k;obtain⟨c,s,hx,f1,f2,-,-⟩:=pD (hp.sm k);rw[hx]at hs⊢;have e1:bZ (c::s++tL r) e=(⟨3,tx (c::s),0,e⟩,(c::s).length):=by
   show bZ (c::(s++tL r)) e=_;unfold bZ;simp only[f1,f2];rw[show c::(s++tL r)=c::s++tL r from rfl,hs];simp
  rw[e1];exact⟨⟨k.symm,fun h=>by omega,fun _=>by rw[hx]⟩,rfl⟩
def Ep(l:List UInt8):Nat->List Lm->Prop
 | e,[]=>(iU l e).1.kind=4
 | e,p::r=>Tm (iU l e).1 p/\Ep l (iU l e).2 r
theorem qI(l:List UInt8):∀(ps:List Lm) (e:Nat) (b:List UInt8),Ch ps->(∀c∈b,dy c=true)->l.drop e=b++tL ps->Ep l e (aV ps)
 | [],e,b,_,hb,hl=>by
  rw[tkn_nil];show(iU l e).1.kind=4;have h1:fL (l.drop e)=b.length:=by
   unfold fL;rw[hl,lD b (tL []) hb (by simp[tL])]
  unfold iU;dsimp only;rw[h1,<-List.drop_drop,hl,List.drop_left];rfl
 | p::r,e,b,hc,hb,hl=>by
  by_cases hk:p.k=0
  ·have e1:aV (p::r)=aV r:=by simp[aV,hk]
   rw[e1];refine qI l r e (b++p.x) hc.tail (fun c h=>?_) (by rw[hl,tL_cons,List.append_assoc]);rcases List.mem_append.1 h with h|h
   ·exact hb c h
   ·exact(hc.head.bl hk).2 c h
  ·have e1:aV (p::r)=p::aV r:=by simp[aV,hk]
   rw[e1];obtain⟨c,s,hx,-,Ja,-⟩:=gO hc;have h1:fL (l.drop e)=b.length:=by
    unfold fL;rw[hl,lD b (tL (p::r)) hb (by rw[tL_cons,hx];simp[Ja hk])]
   have h2:l.drop (e+b.length)=p.x++tL r:=by rw[<-List.drop_drop,hl,List.drop_left,tL_cons]
   obtain⟨t1,t2⟩:=ut hc hk (e+b.length);have h3:iU l e=((bZ (p.x++tL r) (e+b.length)).1,e+b.length+p.x.length):=by
    unfold iU;dsimp only;rw[h1,h2,t2]
   show Tm (iU l e).1 p/\Ep l (iU l e).2 (aV r);rw[h3];exact⟨t1,qI l r _ [] hc.tail i_ (by rw[<-List.drop_drop,h2,List.drop_left];rfl)⟩
def Mt(T:Nat->To)(i:Nat)(ps:List Lm):Prop:=∀j (h:j<ps.length),Tm (T (i+j)) ps[j]
theorem mt_nil{T:Nat->To}{i:Nat}:Mt T i []:=fun j h=>absurd h (Nat.not_lt_zero _)
theorem mt_cons{T:Nat->To}{i:Nat}{p:Lm}{r:List Lm}:Mt T i (p::r)↔Tm (T i) p/\Mt T (i+1) r:=by
 refine⟨fun h=>⟨h 0 i_,fun j hj=>?_⟩,fun h j hj=>?_⟩
 ·have:=h (j+1) (by simpa using hj)
  rw[show i+1+j=i+(j+1) by omega];simpa using this
 ·cases j with
  | zero=>exact h.1
  | succ j=>
   have:=h.2 j (by simpa using hj)
   rw[show i+(j+1)=i+1+j by omega];simpa using this
theorem mt_app{T:Nat->To}:∀ {a b:List Lm} {i:Nat},Mt T i (a++b)↔Mt T i a/\Mt T (i+a.length) b
 | [],b,i=>by simp[mt_nil]
 | p::a,b,i=>by
  rw[List.cons_append,mt_cons,mt_cons,mt_app,and_assoc];rw[show i+1+a.length=i+(p::a).length by simp only[l_c];omega]
theorem AX(l:List UInt8):∀(ts:List Lm) (i:Nat),Ep l (cw l i) ts->Mt (ai l) i ts/\(ai l (i+ts.length)).kind=4
 | [],i,h=>⟨mt_nil,h⟩
 | p::r,i,h=>by
  obtain⟨h1,h2⟩:=AX l r (i+1) h.2;exact⟨mt_cons.2 ⟨h.1,h1⟩,by rw[show i+(p::r).length=i+1+r.length by simp only[l_c];omega];exact h2⟩
theorem qJ{ps:List Lm}(h:Ch ps):Mt (ai (tL ps)) 0 (aV ps)/\(ai (tL ps) (aV ps).length).kind=4:=by
 have:=AX (tL ps) (aV ps) 0 (qI (tL ps) ps 0 [] h i_ i_)
 rw[Nat.zero_add]at this;exact this
end Go.Proofs.YtlamjfhhefcohaaGreatDoor
