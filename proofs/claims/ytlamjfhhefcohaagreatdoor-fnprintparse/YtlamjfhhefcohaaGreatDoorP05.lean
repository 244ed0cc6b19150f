import Derived.Test.YtlamjfhhefcohaaGreatDoorP01
import Derived.Lib.SlKeysI
namespace Go.Proofs.YtlamjfhhefcohaaGreatDoor
set_option linter.all false
set_option maxRecDepth 100000
set_option maxHeartbeats 16000000
section
open Go.Maps
variable{fs:List Fu}{s:ByteArray}{D:DataW Unit}{f:Fu}
def qr(fs:List Fu)(s:ByteArray):Option Nat:=fs.findIdx? (fun f=>decide (f.name=s))
def DG(fs:List Fu)(ns:List Nd):List Nat:=ns.filterMap (fun n=>if n.kind=4 then qr fs n.name else none)
def zr(ss:List St):List Nd:=ss.flatMap (fun s=>s.e++s.f)
def Bu(fs:List Fu)(ss:List St):List Nat:=(List.range fs.length).filter (fun g=>decide (g∈DG fs (zr ss)))
abbrev kS(s:ByteArray):Lit:=.string s.data.toList
structure Fx (D:DataW Unit) (fs:List Fu):Prop where
 map:IsMap D
 has:∀s,Maps.has D (kS s)=(qr fs s).isSome
 val:∀s i,qr fs s=some i->D.atKey (kS s) (.lit (.int .i64 0))=.lit (.int .i64 (i:Int))
structure EJ (D:DataW Unit) (L:List Nat):Prop where
 map:IsMap D
 has:∀a:Int,Maps.has D (.int .i64 a)=true ↔ ∃g∈L,(g:Int)=a
end
section
variable{xs:List ByteArray}{s:ByteArray}{t:Tr}{f g:Nat}
def oR:List Gl->ByteArray->Int
 | [],_=> -1
 | g::r,s=>if g.name=s then g.size else oR r s
def qb(xs:List ByteArray)(s:ByteArray):Bool:=xs.any (fun x=>decide (x=s))
theorem Bv{k:Nat}(hk:k<xs.length)(hs:xs[k]=s):qb xs s=true:=by
 unfold qb;rw[List.any_eq_true];exact⟨xs[k],g_ hk,decide_eq_true hs⟩
theorem Bw(h:∀j (hj:j<xs.length),xs[j]≠s):qb xs s=false:=by
 unfold qb;rw[List.any_eq_false];intro x hx;obtain⟨j,hj,rfl⟩:=List.getElem_of_mem hx;simpa using h j hj
def DH(gs:List Gl)(scope:List ByteArray)(s:ByteArray)(arr:Bool):Int:=
 if (if qb scope s then 0 else oR gs s)<0 then 4 else if decide ((if qb scope s then 0 else oR gs s)>0)=arr then 0 else 5
def AK(t:Tr)(scope:List ByteArray)(n:Nd):Int:=
 if n.kind=2∨n.kind=3 then DH t.globals scope n.name (decide (n.kind=3))
 else if n.kind=4 then(match qr t.funcs n.name with|none=>4|some i=>if ((t.funcs.getD i ⟨⟨#[]⟩,[],[]⟩).params.length:Int)=n.val then 0 else 6)
 else 0
def vM(t:Tr)(scope:List ByteArray):List Nd->Int
 | []=>0
 | n::r=>if AK t scope n=0 then vM t scope r else AK t scope n
def AL(t:Tr)(scope taken:List ByteArray)(s:St):Int:=
 if vM t scope (s.e++s.f)≠0 then vM t scope (s.e++s.f)
 else if s.kind=1 then(if qb taken s.name=true∨0<=oR t.globals s.name then 2 else 0)
 else if s.kind=2∨s.kind=3 then DH t.globals scope s.name (decide (s.kind=3))
 else 0
def ti(t:Tr)(ss:List St)(a:Int)(scope taken:List ByteArray):Int×Int×List ByteArray:=
 match ss with
 | []=>(0,0,taken)
 | s::r=>
  if AL t scope taken s≠0 then(AL t scope taken s,a,taken)
  else
   let scope':=if s.kind=1 then scope++[s.name]else scope
   let taken':=if s.kind=1 then taken++[s.name]else taken
   let x:=ti t (r.take s.thn.toNat) (a+1) scope' taken'
   if x.1≠0 then x
   else
    let y:=ti t ((r.drop s.thn.toNat).take s.els.toNat) (a+1+s.thn) scope' x.2.2
    if y.1≠0 then y
    else ti t (r.drop (s.thn.toNat+s.els.toNat)) (a+1+s.thn+s.els) scope' y.2.2
 termination_by ss.length
 decreasing_by all_goals (simp;omega)
def AM(t:Tr)(f g:Nat):Prop:=f<t.funcs.length/\g∈Bu t.funcs (t.funcs.getD f ⟨⟨#[]⟩,[],[]⟩).body
inductive DI (t:Tr):Nat->Nat->Prop
 | one {f g:Nat}:AM t f g->DI t f g
 | step {f g h:Nat}:DI t f g->AM t g h->DI t f h
def DJ:List ByteArray->List Gl->Bool
 | _,[]=>false
 | seen,g::r=>if qb seen g.name then true else DJ (seen++[g.name]) r
def DK:List ByteArray->Int->List Fu->Option Int
 | _,_,[]=>none
 | seen,i,f::r=>if qb seen f.name then some i else DK (seen++[f.name]) (i+1) r
def AN:ByteArray:=⟨#[109,97,105,110]⟩
def vN(t:Tr):Int×Int×Int:=
 if DJ [] t.globals then(2,-1,-1)
 else match DK (t.globals.map (·.name)) 0 t.funcs with
  | some i=>(2,i,-1)
  | none=>match qr t.funcs AN with
   | none=>(3,-1,-1)
   | some m=>if (t.funcs.getD m ⟨⟨#[]⟩,[],[]⟩).params.length>0 then(3,-1,-1)else(0,-1,-1)
def DL(gs:List Gl):List ByteArray->List ByteArray->Bool
 | _,[]=>false
 | seen,p::r=>if qb seen p=true∨0<=oR gs p then true else DL gs (seen++[p]) r
def AO(t:Tr)(i:Nat)(f:Fu):Int×Int×Int:=
 if DL t.globals [] f.params then(2,i,-1)
 else if (ti t f.body 0 f.params f.params).1≠0 then((ti t f.body 0 f.params f.params).1,i,(ti t f.body 0 f.params f.params).2.1)
 else(0,-1,-1)
def nh(t:Tr):Nat->List Fu->Int×Int×Int
 | _,[]=>(0,-1,-1)
 | i,f::r=>if (AO t i f).1≠0 then AO t i f else nh t (i+1) r
open Classical in
noncomputable def AP(t:Tr)(m:Nat):Nat->Nat->Int×Int×Int
 | _,0=>(0,-1,-1)
 | i,n+1=>if (i=m∨DI t m i)/\DI t i i then(7,i,-1)else AP t m (i+1) n
noncomputable def EK(t:Tr):Int×Int×Int:=
 if cK t=false then(1,-1,-1)
 else if (vN t).1≠0 then vN t
 else if (nh t 0 t.funcs).1≠0 then nh t 0 t.funcs
 else AP t ((qr t.funcs AN).getD 0) 0 t.funcs.length
end
end Go.Proofs.YtlamjfhhefcohaaGreatDoor
