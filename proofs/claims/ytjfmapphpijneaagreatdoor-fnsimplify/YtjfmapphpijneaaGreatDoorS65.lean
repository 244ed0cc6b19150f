import Derived.Deep.RegionHeld
import Derived.Lib.ItoaNum
import Derived.Lib.ConvBytes
import Derived.Deep.RegionLaw
import Derived.Deep.Cut
import Derived.Test.YtjfmapphpijneaaGreatDoorS33
import Derived.Test.YtjfmapphpijneaaGreatDoorS44
namespace Go.Proofs.YtjfmapphpijneaaGreatDoor
set_option linter.all false
set_option maxRecDepth 100000
set_option maxHeartbeats 0
open Go.World Go.RowKit
variable[Inhabited Pick]
section
open Go.Value List Go.Proofs.Tryz
def Cm(m:Nat)(W:AT)(b:Nat)(h:W.cell? ⟨b,0,none⟩=some (.int .u8 (48+(m:Int)%10))):(convert 22 9 (rV b 1 1)).run prog W=.ok (sV ⟨#[dig m]⟩) W:=by
 refine run_convert_bytes_back (P:=prog) W 22 9 5 ⟨b,0,none⟩ 1 [dig m] underlying22 underlying5 underlying9 (λj hj=>?_);obtain rfl:j=0:=IN hj;have e:(((dig m).toNat:Nat):Int)=48+(m:Int)%10:=by rw[zQ];omega
 simp[Addr.add,e,h]
theorem sw(N:Nat):∀u,u<=N->(Lib.decDigits u).length<=u+1:=by
 induction N with
 | zero=>intro u h;rw[Lib.decDigits,dif_pos o_];simp
 | succ n ih=>
  intro u h;rw[Lib.decDigits];split
  simp
  have:=ih (u / 10) o_
  simp only[l_a,l_c,l_n];omega
theorem uo(N:Nat):∀u,u<=N->(u:Int)<=2147483648->∀w:World,Calls prog 55 #[V u] w λe w'=>e=rW (sV (tx (Lib.decDigits u)))/\Below w.heap.size w w':=by
  induction N with
  | zero=>intro u hu Z w;obtain rfl:u=0:=(by omega);have Jb:=Cm 0 (w.alloc (.cells #[.int .u8 48] 5)) w.heap.size i_;go_in;go_wp2;go_ret;exact⟨rX (by rw[Lib.decDigits];simp[tx,dig]),r_.alloc n_ _⟩
  | succ n ih=>
    intro u hu Z w;have HI:Hid (∀u,u<=n->(u:Int)<=2147483648->∀w:World,Calls prog 55 #[V u] w λe w'=>e=rW (sV (tx (Lib.decDigits u)))/\Below w.heap.size w w'):=ih;clear ih;by_cases h10:u<10
    · have Jb:=Cm u (w.alloc (.cells #[.int .u8 (48+(u:Int))] 5)) w.heap.size (by simp;omega)
      have I:Hid (Lib.decDigits u=[dig u]):=by show _=_;rw[Lib.decDigits,dif_pos h10,dig,Nat.mod_eq_of_lt h10]
      go_in;go_wp2;go_ret;exact⟨rX (by rw[I.out];rfl),r_.alloc n_ _⟩
    · have I:Hid (Lib.decDigits u=Lib.decDigits (u / 10)++[dig u]):=by show _=_;rw[Lib.decDigits,dif_neg h10];rfl
      have U:∀w:World,Calls prog 55 #[V ((u:Int) / 10)] w λe w'=>e=rW (sV (tx (Lib.decDigits (u / 10))))/\Below w.heap.size w w':=by have e1:(u:Int) / 10=((u / 10:Nat):Int):=o_;rw[e1];exact HI.out (u / 10) o_ o_
      have Jc:Hid _:=U;clear U;have Jg:((tx (Lib.decDigits (u / 10))).size:Int)<=1000000000:=by rw[rY];have:=sw (u / 10) (u / 10) n_;omega
      have J:tx (Lib.decDigits (u / 10))++(⟨#[dig u]⟩:ByteArray)=tx (Lib.decDigits (u / 10)++[dig u]):=zR _ [dig u];have HE:Hid _:=J;clear J;generalize hA:tx (Lib.decDigits (u / 10))=A at*;have Jb:=Cm u;have Jh:(⟨#[dig u]⟩:ByteArray).size=1:=rfl;have ht:(u:Int).tmod 10=(u:Int)%10:=Int.tmod_eq_emod_of_nonneg o_;have Ji:IntKind.i64.wrap ((u:Int) / 10)=(u:Int) / 10:=(by simp[IntKind.wrap,IntKind.bits,IntKind.signed];omega);have Jf:IntKind.i64.wrap ((u:Int)%10)=(u:Int)%10:=(by simp[IntKind.wrap,IntKind.bits,IntKind.signed];omega);have Je:IntKind.i64.wrap (48+(u:Int)%10)=48+(u:Int)%10:=(by simp[IntKind.wrap,IntKind.bits,IntKind.signed];omega);have Jd:IntKind.u8.wrap (48+(u:Int)%10)=48+(u:Int)%10:=(by simp[IntKind.wrap,IntKind.bits,IntKind.signed];omega);go_in;go_wp2_with fail;go_region_held (λ_=>True) (exact trivial)
        (first
        | (with_reducible refine Calls.mono (Jc.out _) ?_;rintro e w2 ⟨rfl,Ja⟩;simp only[World.size_drew,World.size_alloc]at Ja;have q2:=λh=>Ja.cell (p:=⟨w.heap.size,0,none⟩) h))
      all_goals go_wp2_with fail
      all_goals go_ret
      all_goals refine⟨rX (by rw[HE.out,I.out]),?_⟩
      exact(r_.drew.trans Ja).alloc Ja.size _;exact(r_.drew.alloc i_ _).trans (Ja.mono o_);exact(r_.drew.alloc i_ _).trans (Ja.mono o_)
end
section
open Go.Value List
structure Gn where
 vc:BY
 vp:BY
 vs:BY
 vl:BY
 m:Int
 cs:List Io
 ps:List Int
 ss:List Io
 ls:List Io
structure gh (S:Ft) (w:AT) (G:Gn) (K:Nat):Prop where
 c:∀W,aj S w W->be W G.vc G.cs
 p:∀W,aj S w W->Ints W G.vp G.ps
 s:∀W,aj S w W->be W G.vs G.ss
 l:∀W,aj S w W->be W G.vl G.ls
 cp:G.ps.length=G.cs.length
 c4:G.cs.length<=10
 pb:∀x∈G.ps,0<=x/\x<=6
 ns:(∀x∈G.cs,x.size<=100000)/\(∀x∈G.ss,x.size<=100000)/\∀x∈G.ls,x.size<=100000
 sl:G.ss.length<=K
 ll:G.ls.length<=K
 mb:0<=G.m/\G.m<=K
def gh.tcs{S:Ft}{w w':AT}{G:Gn}{K:Nat}(h:gh S w G K)(ht:aj S w w'):gh S w' G K:=
 ⟨λW hW=>h.c W (ht.trans hW),λW hW=>h.p W (ht.trans hW),λW hW=>h.s W (ht.trans hW),λW hW=>h.l W (ht.trans hW),h.cp,h.c4,h.pb,h.ns,h.sl,h.ll,h.mb⟩
def gh.more{S:Ft}{w:AT}{G:Gn}{K K':Nat}(h:gh S w G K)(hk:K<=K'):gh S w G K':=
 ⟨h.c,h.p,h.s,h.l,h.cp,h.c4,h.pb,h.ns,Ka h.sl,Ka h.ll,Ka h.mb⟩
def gh.less{S S':Ft}{w:AT}{G:Gn}{K:Nat}(h:gh S w G K)(hs:∀k,S' k->S k):gh S' w G K:=
 ⟨λW hW=>h.c W (hW.mono hs),λW hW=>h.p W (hW.mono hs),λW hW=>h.s W (hW.mono hs),λW hW=>h.l W (hW.mono hs),h.cp,h.c4,h.pb,h.ns,h.sl,h.ll,h.mb⟩
def cI(e:List Nd)(L:Nat):Prop:=e.length<=L/\∀n∈e,n.nm.size<=100000
def cI.more{e:List Nd}{L L':Nat}(h:cI e L)(hl:L<=L'):cI e L':=⟨t_ h.1 hl,h.2⟩
def cI.app{a b:List Nd}{L J:Nat}(h:cI a L)(I:cI b J):cI (a++b) (L+J):=by refine⟨by rw[l_a];exact Nat.add_le_add h.1 I.1,λn hn=>?_⟩;rcases J5.1 hn with hn|hn;exact h.2 n hn;exact I.2 n hn
def cI.one{k v:Int}{s:Io}(h:s.size<=100000):cI [⟨k,v,s⟩] 1:=⟨n_,λn hn=>by simp at hn;subst hn;exact h⟩
def cI.nil:cI [] 0:=⟨n_,λn hn=>by cases hn⟩
def cG(w:AT)(B:Nat)(hB:B<=w.heap.size)(k v:Int)(s:Io):aW B (w.alloc (.cells #[V k,V v,sV s] 81)) (rV w.heap.size 1 1) [⟨k,v,s⟩]:=
 ownsRow_lit w #[V k,V v,sV s] 1 hB d_ rfl
def iR(w:AT)(B:Nat)(hB:B<=w.heap.size):aW B (w.alloc (.cells #[] 81)) (rV w.heap.size 0 0) []:=
 ownsRow_lit w #[] 0 hB d_ rfl
def nK{w:AT}{v:BY}{I:List Io}(h:be w v I)(i:Nat)(U:i<I.length):∃b off c,v=.slice (some ⟨b,off,none⟩) I.length c/\DO w b (off+i) (sV I[i]):=by obtain⟨a,c,rfl,-,-,h⟩:=h;obtain⟨b,off,rfl,J⟩:=h o_;exact⟨b,off,c,rfl,J i U⟩
def rx:Nat->Nat
 | 0=>1
 | d+1=>4*rx d+3
def ry:Nat->Nat
 | 0=>1
 | d+1=>6*ry d+3
end
section
open Go.Value List Go.Proofs.Tryz
def ik(g:Nat)(a:Option Addr)(len cap:Nat)(S:Ft)(I:List Io)(v:BY)(w:AT)(hl:len<=1048576)(hS:S g)(hc:ew g a len cap w)(hv:∀W,aj S w W->be W v I)(h1:1<=I.length/\I.length<=100000):
  Calls prog 54 #[pV g,v] w λe w'=>∃s,s∈I/\e=rW (sV s)/\Dr g a len cap S w w':=by
 have⟨HV,HC⟩:=h2 hv hc;obtain⟨av,cv,rfl,-⟩:=hv w (aj.refl _ _);go_in;go_wp2_with fail;refine(aE g a len cap S _ _ hl hS HC.o o_).mono ?_;rintro e w1 ⟨x,rfl,hx,J⟩;have HD:=ah J;obtain⟨i,rfl⟩:∃i:Nat,x=i:=⟨x.toNat,o_⟩;have Z:i<I.length:=o_;have⟨b,Jb,c,he,Ja⟩:=nK (HV.o w1 J.tcs) i Z;have U:Hid (I[i]∈I):=g_ Z;generalize I[i]=s at Ja U;simp only[Value.slice.injEq]at he;obtain⟨rfl,-,rfl⟩:=he;go_wp2;go_ret;exact⟨_,U,rfl,HD⟩
section
variable{B:Nat}{w1 w2 w:AT}{v:BY}{ms:List Nd}{k x:Int}{s:Io}
def I6{W:AT}(hb:Below B W w1)(hB:B<=w1.heap.size)(hr:aW B w1 v ms)(hg:w1.grownBy w2 v.ownBlock):Below B W w2:=hb.grown hg hB (λj hj=>(ownsRow.lt hr j hj).1)
def N1(k x:Int)(s:Io)(p:Nat)(w:AT)(v:BY):Prop:=aC w (rV p 1 1) [⟨k,x,s⟩]/\v.ownBlock≠some p
def N1.step{p:Nat}{v':BY}(h:N1 k x s p w1 v)(hg:w1.grownBy w2 v.ownBlock)(h3:∀k,v'.ownBlock=some k->v.ownBlock=some k\/w1.heap.size<=k):N1 k x s p w2 v':=by
 have hp:p<w1.heap.size:=by obtain⟨a,c,e,-,-,U⟩:=h.1;have⟨b,Ja,J,Z⟩:=U i_;simp only[Value.slice.injEq]at e;obtain⟨rfl,-,-⟩:=e;simp at J;obtain⟨rfl,rfl⟩:=J;exact b_ (Z 0 i_).1
 refine⟨h.1.grown hg (λg hg' e=>?_),λe=>?_⟩;simp only[ownBlock,J0]at hg';subst hg';exact h.2 e;rcases h3 p e with I|I;exact h.2 I;omega
def N1.new(h:aW B w v ms):N1 k x s w.heap.size (w.alloc (.cells #[V k,V x,sV s] 81)) v:=
 ⟨(cG w 0 y_ k x s).nodes,λe=>by have:=(ownsRow.lt h _ e).2;omega⟩
def N1.newA(w:AT):N1 k x s w.heap.size ((w.alloc (.cells #[V k,V x,sV s] 81)).alloc (.cells #[] 81)) (.slice (some ⟨w.heap.size+1,0,none⟩) 0 0):=
 ⟨(cG w 0 y_ k x s).nodes.below (ao _ _),by simp[ownBlock]⟩
def Hj(k x:Int)(s:Io)(W:AT):
  (aW W.heap.size ((W.drew.alloc (.cells #[] 81)).alloc (.cells #[V k,V x,sV s] 81)) (rV W.heap.size 0 0) []/\N1 k x s (W.heap.size+1) ((W.drew.alloc (.cells #[] 81)).alloc (.cells #[V k,V x,sV s] 81)) (rV W.heap.size 0 0)) /\
  (aW W.heap.size ((W.drew.alloc (.cells #[V k,V x,sV s] 81)).alloc (.cells #[] 81)) (.slice (some ⟨W.heap.size+1,0,none⟩) 0 0) []/\N1 k x s W.heap.size ((W.drew.alloc (.cells #[V k,V x,sV s] 81)).alloc (.cells #[] 81)) (.slice (some ⟨W.heap.size+1,0,none⟩) 0 0)):=by
 have e:∀o,(W.drew.alloc o).heap.size=W.heap.size+1:=λo=>by simp
 have h:=(iR W.drew W.heap.size n_);have J:=N1.new (k:=k) (x:=x) (s:=s) h;have I:=iR (W.drew.alloc (.cells #[V k,V x,sV s] 81)) W.heap.size i_;rw[e]at J I;exact⟨⟨h.below (ao _ _),J⟩,I,N1.newA W.drew⟩
def lX{W0:AT}{ops:Array Oper}{o:Oper}{a:Act}{K:Act->AT->Prop}{Q:Exit->Act->AT->Prop}{E:Prop}(hgd:o.guard=none)(s x:Operand)
  (ho:o.op=.call {callee:=.builtin .append,args:=#[s,x],argTypes:=#[77,77]})
  (v:BY) (ms:List Nd) (hs:a.eval s=v) (hown:aW W0.heap.size w v ms) (hb:Bl W0 w) (u:BY) (ns:List Nd) (hx:a.eval x=u) (hN:aC w u ns)
  (hl:ms.length+ns.length<=10000000)
  (h:∀v' w',aW W0.heap.size w' v' (ms++ns)->Bl W0 w'->w.grownBy w' v.ownBlock->(∀k,v'.ownBlock=some k->v.ownBlock=some k\/w.heap.size<=k)->K (a.put o.dst v') w'):
  if Region.wanted o (yielded ops a.tmps)=true then Oper.wp prog o a w K Q else E:=
 iQ hgd s x ho W0.heap.size v ms hs hown u ns hx hN hl hb.size λv' w' h1 h2 h3=>h v' w' h1 (I6 hb hb.size hown h2) h2 h3
theorem jL(I U:List Nd)(k x:Int)(s:Io)(va vb:BY)(w:AT)(hA:aC w va I)(hB:aC w vb U)(hl:I.length+U.length<=100000):
    Calls prog 81 #[va,vb,.agg #[V k,V x,sV s]] w λe w'=>∃u,e=rW u/\aW w.heap.size w' u (I++U++[⟨k,x,s⟩])/\Bl w w':=by
  have⟨W,J⟩:=q_ (w.alloc (.cells #[V k,V x,sV s] 81));have HW:=ah J;have Jc:Bl w W:=by rw[J];exact r_.alloc n_ _
  have Jg:w.heap.size<W.heap.size:=by rw[J];simp
  have Jn:=hA.below Jc;have Jm:=hB.below Jc;obtain⟨aa,ca,rfl,-⟩:=hA;obtain⟨ab,cb,rfl,-⟩:=hB;have HA:Hid (∀W',Bl W W'->aC W' (.slice aa I.length ca) I):=λW' h=>Jn.below h;have HB:=ah λW' (h:Bl W W')=>Jm.below h;have c0:∀W',Bl W W'->DO W' w.heap.size 0 (V k):=λW' h=>(h.cell (p:=⟨w.heap.size,0,none⟩) Jg).trans (by rw[J];simp);have c1:∀W',Bl W W'->DO W' w.heap.size 1 (V x):=λW' h=>(h.cell (p:=⟨w.heap.size,1,none⟩) Jg).trans (by rw[J];simp);have c2:∀W',Bl W W'->DO W' w.heap.size 2 (sV s):=λW' h=>(h.cell (p:=⟨w.heap.size,2,none⟩) Jg).trans (by rw[J];simp);have HC:Hid (∀W',Bl W W'->DO W' w.heap.size 0 (V k)/\DO W' w.heap.size 1 (V x)/\DO W' w.heap.size 2 (sV s)):=λW' h=>⟨c0 W' h,c1 W' h,c2 W' h⟩;have bd:Bl W W.drew:=r_.drew;have⟨d0,d1,d2⟩:=HC.o _ (Below.refl _ W);have b1:Bl W (W.drew.alloc (.cells #[] 81)):=bd.alloc n_ _;have b2:Bl W ((W.drew.alloc (.cells #[] 81)).alloc (.cells #[V k,V x,sV s] 81)):=b1.alloc b1.size _;have b3:Bl W ((W.drew.alloc (.cells #[V k,V x,sV s] 81)).alloc (.cells #[] 81)):=(bd.alloc n_ _).alloc i_ _;have Jb:Hid (_/\_/\_):=And.intro b1 (And.intro b2 b3);have Ja:=Hj k x s W;have Ja:=ah Ja;clear J c0 c1 c2 Jn Jm b1 b2 b3 bd;go_in;go_upto_region 1 with fail;rw[<-HW.o];go_region_law
    (first
    | (refine lX (W0:=W) rfl (.tmp 7) (.tmp 8) rfl _ [] rfl ?own ?bel _ I rfl (HA.o _ ?bel2) H6 ?_
       case own=>(first|exact iR W.drew W.heap.size n_|exact Ja.o.1.1|exact Ja.o.2.1)
       case bel=>(first|exact Jb.o.1|exact Jb.o.2.1|exact Jb.o.2.2)
       case bel2=>(first|exact Jb.o.1|exact Jb.o.2.1|exact Jb.o.2.2)
       intro v9 w9 h9 Z g9 f9;have⟨e0,e1,e2⟩:=HC.o w9 Z;have Jk:Bl W (w9.alloc (.cells #[V k,V x,sV s] 81)):=Z.alloc Z.size _;have Je:aW W.heap.size w9 v9 I:=h9;first
       | (have Jq:N1 k x s W.heap.size w9 v9:=N1.step Ja.o.2.2 g9 f9)
       | (have Jq:N1 k x s (W.heap.size+1) w9 v9:=N1.step Ja.o.1.2 g9 f9)
       | skip)
    | (refine lX (W0:=W) rfl (.tmp 9) (.tmp 10) rfl _ I rfl ?own ?bel _ U rfl (HB.o _ ?bel2) o_ ?_
       case own=>(first|exact Je|exact Je.below (ao _ _))
       case bel=>(first|exact Z|exact Jk)
       case bel2=>(first|exact Z|exact Jk)
       intro Jv Ji h11 Jd Jl Jp;have⟨i0,i1,i2⟩:=HC.o Ji Jd;have Jf:Bl W (Ji.alloc (.cells #[V k,V x,sV s] 81)):=Jd.alloc Jd.size _;first
       | (have Jr:=N1.step Jq Jl Jp)
       | (have Jr:=N1.step (N1.new (k:=k) (x:=x) (s:=s) Je) Jl Jp)
       | skip)
    | (refine lX (W0:=W) rfl (.tmp 11) (.tmp 13) rfl _ (I++U) rfl ?own ?bel _ [⟨k,x,s⟩] rfl ?nod H6 ?_
       case own=>(first|exact h11|exact aW.below h11 (ao _ _))
       case bel=>(first|exact Jd|exact Jf)
       case nod=>(first|exact Jr.1|exact(N1.new (k:=k) (x:=x) (s:=s) h11).1)
       intro Jt Jo Jj Jh Ju Js;have HF:Hid (aW w.heap.size Jo Jt (I++U++[⟨k,x,s⟩])/\Bl w Jo):=⟨fi Jj Jc.size,Jc.trans (Jh.mono Jc.size)⟩;clear Jj Jh Ju Js))
  all_goals (go_wp2;go_ret;exact⟨_,rfl,HF.o.1,HF.o.2⟩)
end
variable{S:Ft}{w w':AT}
def Fp{I U x2 Z J:BY}{t:JZ}(h:aj S (w.alloc (.cells #[I,U,x2,Z,J] t)) w')(hS:∀k,S k->k<w.heap.size):
  DO w' w.heap.size 0 I/\DO w' w.heap.size 1 U/\DO w' w.heap.size 2 x2/\DO w' w.heap.size 3 Z/\DO w' w.heap.size 4 J:=by
 have e:∀o,w'.cell? ⟨w.heap.size,o,none⟩=(w.alloc (.cells #[I,U,x2,Z,J] t)).cell? ⟨w.heap.size,o,none⟩:=λo=>c_ (a:=⟨w.heap.size,o,none⟩) (h.block w.heap.size i_ (λs=>Ka (hS _ s)));exact⟨(e 0).trans i_,(e 1).trans i_,(e 2).trans i_,(e 3).trans i_,(e 4).trans i_⟩
def kD(ps:List Io)(cs:Array BY)(n:Nat)(hn:n=ps.length)(hcs:cs.toList=ps.map Value.string)(hm:n<=1000)(hS:∀k,S k->k<w.heap.size):∀W,aj S (w.alloc (.cells cs 9)) W->be W (rV w.heap.size n n) ps:=λW hW=>by subst hn;have h1:(w.alloc (.cells cs 9)).ownsRow w.heap.size 9 1 (rV w.heap.size ps.length ps.length) ps.length cs.toList:=ownsRow_lit w cs ps.length n_ (by unfold maxLen;omega) (by rw[<-Array.length_toList,hcs];simp);rw[hcs]at h1;exact ij (bE h1 hW hS)
def Dr.box{g:Nat}{a:Option Addr}{len cap:Nat}{o:Obj}(h:Dr g a len cap S (w.alloc o) w'):Dr g a len cap S w w':=⟨h.cur,((aj.refl S w).alloc o).trans h.tcs⟩
theorem gB(g:Nat)(a:Option Addr)(len cap:Nat)(S:Ft)(G:Gn)(K:Nat)(w:AT)(J:len<=1048576)(hL:Lo g a len S w.heap.size)(hc:ew g a len cap w)(U:gh S w G K)(hK:K<=50000):
  Calls prog 82 #[pV g,.agg #[G.vc,G.vp,G.vs,G.vl,V G.m]] w λe w'=>∃u ns,e=rW u/\aW w.heap.size w' u ns/\cI ns 1/\Dr g a len cap S w w':=by
 have I:=hL.sg;obtain⟨vc,vp,vs,vl,m,cs,ps,ss,ls⟩:=G;have HG:=ah U;obtain⟨ac,cc,e1,-⟩:=U.c w (aj.refl _ _);obtain⟨ap,cp,e2,-⟩:=U.p w (aj.refl _ _);obtain⟨av,cv,e3,-⟩:=U.s w (aj.refl _ _);obtain⟨al,cl,e4,-⟩:=U.l w (aj.refl _ _);dsimp only at e1 e2 e3 e4;subst e1 e2 e3 e4;have Jr:ss.length<=K:=U.sl;dsimp only;generalize hW0:w.alloc (.cells #[.slice ac cs.length cc,.slice ap ps.length cp,.slice av ss.length cv,.slice al ls.length cl,V m] 106)=W0;have Jl:=ah hW0;have Jh:Hid (Dr g a len cap S w W0):=by rw[<-hW0];exact(Dr.refl hc).alloc _
 have HX:Hid (∀W,aj S W0 W->W.cell? ⟨w.heap.size,2,none⟩=some (.slice av ss.length cv)):=λW hW=>by rw[<-hW0]at hW;exact(Fp hW hL.s).2.2.1
 have Jm:=ah hL;clear hW0 hc hL;go_in;go_upto_region 1 with fail;rw[Jl.o];go_wp2_with fail;refine(aE g a len cap S _ _ J I Jh.o.cur o_).mono ?_;rintro e w1 ⟨k,rfl,hk,Jj⟩;have x2:=HX.o w1 Jj.tcs;have Ja:Hid (Dr g a len cap S w w1):=Jh.o.trans Jj;have Jk:w.heap.size<=w1.heap.size:=Ja.o.tcs.size;by_cases h3:k<3/\0<ss.length
 ·obtain⟨Ju,Jt⟩:=h3;have Jq:(0:Int)<(ss.length:Int):=o_
  go_wp2_with fail;refine(ik g a len cap S ss _ w1 J I Ja.o.cur (HG.o.tcs Ja.o.tcs).s ⟨o_,o_⟩).mono ?_;rintro e w2 ⟨s,Z,rfl,Jc⟩;have Jb:Hid (Dr g a len cap S w w2):=Ja.o.trans Jc;have HN:Hid (s.size<=100000):=HG.o.ns.2.1 s Z;clear Jc x2;go_wp2;go_ret;exact⟨_,_,rfl,cG w2 w.heap.size Jb.o.tcs.size _ _ _,cI.one HN,Jb.o.alloc _⟩
 have Jf:3<=k\/(k<3/\(ss.length:Int)<=0):=o_;by_cases e3:k=3
 ·subst e3;go_wp2_with fail;refine(ik g a len cap S [⟨#[103]⟩,⟨#[104]⟩] _ _ J I (Ja.o.alloc _).cur (kD _ _ 2 rfl rfl d_ (Jm.o.mono Jk).s) d_).mono ?_;rintro e w2 ⟨s,Z,rfl,Jc⟩;have Jb:Hid (Dr g a len cap S w w2):=Ja.o.trans Jc.box;have HN:Hid (s.size<=100000):=by show _<=_;simp at Z;rcases Z with rfl|rfl <;> decide
  clear Jc x2 Z;go_wp2;go_ret;exact⟨_,_,rfl,cG w2 w.heap.size Jb.o.tcs.size _ _ _,cI.one HN,Jb.o.alloc _⟩
 by_cases e4:k=4
 ·subst e4;go_wp2;go_ret;exact⟨_,_,rfl,cG w1 w.heap.size Jk _ _ _,cI.one d_,Ja.o.alloc _⟩
 have HR:Hid (ew g a len cap w1):=Ja.o.cur;have Jg:∀(z:Int) (w2:AT),Dr g a len cap S w w2->∃ns,aW w.heap.size (w2.alloc (.cells #[V 1,V z,sV ⟨#[]⟩] 81)) (rV w2.heap.size 1 1) ns/\cI ns 1/\Dr g a len cap S w (w2.alloc (.cells #[V 1,V z,sV ⟨#[]⟩] 81)):=λz w2 h=>⟨_,cG w2 w.heap.size h.tcs.size _ _ _,cI.one d_,h.alloc _⟩;have Jd:=ah Jg;clear Jg h3;have Js:¬(k<3/\0<(ss.length:Int)):=o_
 rcases Jf with Jf|⟨Jf,Jn⟩;all_goals (
  go_wp2_with fail;refine(aE g a len cap S _ _ J I HR.o o_).mono ?_;rintro e w2 ⟨z,rfl,hz,Jc⟩;have Jb:Hid (Dr g a len cap S w w2):=Ja.o.trans Jc;go_wp2_with fail;refine(fd g a len cap S _ _ J I Jb.o.cur o_).mono ?_;rintro e w3 ⟨q,rfl,Ji⟩;have Je:Hid (Dr g a len cap S w w3):=Jb.o.trans Ji;clear Ji;cases q with
  | false=>go_wp2;go_ret;obtain⟨ns,p1,p2,p3⟩:=Jd.o z w3 Je;exact⟨_,ns,rfl,p1,p2,p3⟩
  | true=>
   go_wp2_with fail;refine(zY g a len cap S _ J I Je.o.cur).mono ?_;rintro e w4 ⟨y,rfl,Jp⟩;have Jo:Hid (Dr g a len cap S w w4):=Je.o.trans Jp;go_wp2_with fail;all_goals go_ret
   all_goals (
    obtain⟨ns,p1,p2,p3⟩:=Jd.o _ w4 Jo;exact⟨_,ns,rfl,p1,p2,p3⟩))
end
open Go.Proofs.Tryz
variable{w:AT}{v:BY}
def Dr.app{g:Nat}{a:Option Addr}{len cap:Nat}{S:Ft}{w1 w2:AT}{B:Nat}{ms:List Nd}(h:Dr g a len cap S w w1)(hL:Lo g a len S w.heap.size)(hr:aW B w1 v ms)(hB:w.heap.size<=B)(hg:w1.grownBy w2 v.ownBlock):Dr g a len cap S w w2:=
 h.new hL (aj.of_grown (S:=λk=>v.ownBlock=some k) hg (λk hk=>hk)) (λk hk=>t_ hB (ownsRow.lt hr k hk).1)
def ints_at{I:List Int}(h:Ints w v I)(i:Nat)(U:i<I.length):∃b c,v=rV b I.length c/\DO w b i (V I[i]):=by obtain⟨a,c,rfl,h⟩:=h;obtain⟨b,rfl,J⟩:=h o_;exact⟨b,c,rfl,J i U⟩
def Hk{d:Nat}(h:d<=5):1<=ry d/\ry d<=12441:=by
 have:d=0\/d=1\/d=2\/d=3\/d=4\/d=5:=by omega
 rcases this with rfl|rfl|rfl|rfl|rfl|rfl <;> decide
def JP(g:Nat)(a:Option Addr)(len cap:Nat)(S:Ft)(d:Nat):Prop:=∀(z:Int) (G:Gn) (K:Nat) (w:AT),z=d->Lo g a len S w.heap.size->ew g a len cap w->gh S w G K->K<=50000 ->
  Calls prog 80 #[pV g,.agg #[G.vc,G.vp,G.vs,G.vl,V G.m],V z] w λe w'=>∃u ns,e=rW u/\aW w.heap.size w' u ns/\cI ns (ry d)/\Dr g a len cap S w w'
theorem pH(g:Nat)(a:Option Addr)(len cap:Nat)(S:Ft)(hl:len<=1048576)(d:Nat)(hd:d<=5):JP g a len cap S d:=by
 induction d with
 | zero=>
  intro z G K w hz hL hc hG hK;have hS:=hL.sg;obtain⟨vc,vp,vs,vl,m,cs,ps,ss,U⟩:=G;have HG:=ah hG;obtain⟨ac,cc,e1,-⟩:=hG.c w (aj.refl _ _);obtain⟨ap,cp,J,-⟩:=hG.p w (aj.refl _ _);obtain⟨av,cv,e3,-⟩:=hG.s w (aj.refl _ _);obtain⟨al,cl,e4,-⟩:=hG.l w (aj.refl _ _);dsimp only at e1 J e3 e4;subst e1 J e3 e4;obtain rfl:z=0:=IN hz;dsimp only;clear hG hz;generalize hW0:w.alloc (.cells #[.slice ac cs.length cc,.slice ap ps.length cp,.slice av ss.length cv,.slice al U.length cl,V m] 106)=W0;have Xg:=ah hW0;have Jo:Hid (Dr g a len cap S w W0):=by rw[<-hW0];exact(Dr.refl hc).alloc _
  have HX:Hid (∀W,aj S W0 W->_):=λW hW=>by rw[<-hW0]at hW;exact(Fp hW hL.s)
  have Jc:=ah hL;clear hW0 hc hL;go_in;go_upto_region 1 with fail;rw[Xg.o];go_wp2_with fail;refine(aE g a len cap S _ _ hl hS Jo.o.cur o_).mono ?_;rintro e w1 ⟨k,rfl,hk,Jq⟩;have⟨x0,x1,x2,x3,x4⟩:=HX.o w1 Jq.tcs;have Jb:Hid (Dr g a len cap S w w1):=Jo.o.trans Jq;have Jd:w.heap.size<=w1.heap.size:=Jb.o.tcs.size;clear Jq HX Xg Jo;go_wp2_with fail;refine(gB g a len cap S ⟨.slice ac cs.length cc,.slice ap ps.length cp,.slice av ss.length cv,.slice al U.length cl,m,cs,ps,ss,U⟩ K w1 hl (Jc.o.mono Jd) Jb.o.cur (HG.o.tcs Jb.o.tcs) hK).mono ?_;rintro e w2 ⟨u,ns,rfl,hr,hn,Ja⟩;have HF:Hid (aW w.heap.size w2 u ns/\cI ns 1/\Dr g a len cap S w w2):=⟨fi hr Jd,hn,Jb.o.trans Ja⟩;clear hr hn Ja x0 x1 x2 x3 x4;go_wp2;go_ret;exact⟨_,_,rfl,HF.o.1,HF.o.2.1,HF.o.2.2⟩
 | succ d ih=>
  intro z G K w hz hL hc hG hK;have Yk:=Hk (d:=d) o_;have HI:Hid (JP g a len cap S d):=ih o_;clear ih;have hS:=hL.sg;obtain⟨vc,vp,vs,vl,m,cs,ps,ss,U⟩:=G;have HG:=ah hG;obtain⟨ac,cc,e1,-⟩:=hG.c w (aj.refl _ _);obtain⟨ap,cp,J,-⟩:=hG.p w (aj.refl _ _);obtain⟨av,cv,e3,-⟩:=hG.s w (aj.refl _ _);obtain⟨al,cl,e4,-⟩:=hG.l w (aj.refl _ _);dsimp only at e1 J e3 e4;subst e1 J e3 e4;have Yz:1<=z/\z<=6:=o_;have Xz:z-1=d:=o_;have Yr:(z == 0)=false:=by simp;omega
  have HZ:=ah Xz;have Xe:Hid (ry (d+1)=6*ry d+3):=rfl;dsimp only;clear hG hz Xz;generalize hW0:w.alloc (.cells #[.slice ac cs.length cc,.slice ap ps.length cp,.slice av ss.length cv,.slice al U.length cl,V m] 106)=W0;have Xg:=ah hW0;have Jo:Hid (Dr g a len cap S w W0):=by rw[<-hW0];exact(Dr.refl hc).alloc _
  have HX:Hid (∀W,aj S W0 W->_):=λW hW=>by rw[<-hW0]at hW;exact(Fp hW hL.s)
  have Jc:=ah hL;have Jy:=ah λW (h:aj S w W)=>HG.o.tcs h;clear hW0 hc hL;go_in;go_upto_region 1 with fail;rw[Xg.o];go_wp2_with fail;refine(aE g a len cap S _ _ hl hS Jo.o.cur o_).mono ?_;rintro e w1 ⟨k,rfl,hk,Jq⟩;have⟨x0,x1,x2,x3,x4⟩:=HX.o w1 Jq.tcs;have Jb:Hid (Dr g a len cap S w w1):=Jo.o.trans Jq;have X_:Hid (aj S W0 w1):=Jq.tcs;have Jd:w.heap.size<=w1.heap.size:=Jb.o.tcs.size;have Xk:Hid (Dr g a len cap S w W0):=Jo.o;clear Jq Xg Jo;by_cases k3:k<3
  ·clear HX;go_wp2_with fail;refine(gB g a len cap S ⟨.slice ac cs.length cc,.slice ap ps.length cp,.slice av ss.length cv,.slice al U.length cl,m,cs,ps,ss,U⟩ K w1 hl (Jc.o.mono Jd) Jb.o.cur (HG.o.tcs Jb.o.tcs) hK).mono ?_;rintro e w2 ⟨u,ns,rfl,hr,hn,Ja⟩;have HF:Hid (aW w.heap.size w2 u ns/\cI ns (ry (d+1))/\Dr g a len cap S w w2):=⟨fi hr Jd,hn.more (by rw[Xe.o];omega),Jb.o.trans Ja⟩;clear hr hn Ja x0 x1 x2 x3 x4;go_wp2;go_ret;exact⟨_,_,rfl,HF.o.1,HF.o.2.1,HF.o.2.2⟩
  by_cases k5:k<5
  ·clear HX;go_wp2_with fail;refine(HI.o _ ⟨.slice ac cs.length cc,.slice ap ps.length cp,.slice av ss.length cv,.slice al U.length cl,m,cs,ps,ss,U⟩ K w1 HZ.o (Jc.o.mono Jd) Jb.o.cur (Jy.o _ Jb.o.tcs) hK).mono ?_;rintro e w2 ⟨u2,J,rfl,Jn,Jh,Ja⟩;have Ji:Hid (Dr g a len cap S w w2):=Jb.o.trans Ja;have Xl:Hid (∀W,aj S w2 W->aC W u2 J):=gL Jn (Jc.o.mono Jd).s;have Xb:=ah Jh;have Xx:J.length<=ry d:=Jh.1;clear Jn Jh Ja x0 x1 x2 x3 x4;go_wp2_with fail;refine(fd g a len cap S _ _ hl hS Ji.o.cur o_).mono ?_;rintro e w3 ⟨q,rfl,Jf⟩;have Jp:Hid (Dr g a len cap S w w3):=Ji.o.trans Jf;have Yo:Hid (aj S w2 w3):=Jf.tcs;clear Jf;have Xa:∀(I w5 w6:AT) (mk:Int) (nm:Io) (Z u6:BY),nm.size<=100000->Dr g a len cap S w I->aW I.heap.size w5 Z (J++[⟨1,mk,⟨#[]⟩⟩]++[⟨7,13,⟨#[]⟩⟩])->Bl I w5->aW I.heap.size w6 u6 (J++[⟨1,mk,⟨#[]⟩⟩]++[⟨7,13,⟨#[]⟩⟩]++[⟨3,0,nm⟩])->(w5.alloc (.cells #[V 3,V 0,sV nm] 81)).grownBy w6 Z.ownBlock->∃ns,aW w.heap.size w6 u6 ns/\cI ns (ry (d+1))/\Dr g a len cap S w w6:=λI w5 w6 mk nm Z u6 hnm h4 h5 Jg h6 hg=>by refine⟨_,fi h6 h4.tcs.size,?_,?_⟩;refine cI.more (((Xb.o.app (cI.one d_)).app (cI.one d_)).app (cI.one hnm)) ?_;rw[Xe.o];omega;exact Dr.app ((h4.below Jg).alloc _) Jc.o (aW.below h5 (ao _ _)) h4.tcs.size hg
   have Jl:=ah Xa;clear Xa;cases q
   all_goals (
    go_wp2_with fail;refine(fd g a len cap S _ _ hl hS Jp.o.cur o_).mono ?_;rintro e I ⟨q4,rfl,Je⟩;have J_:Hid (Dr g a len cap S w I):=Jp.o.trans Je;have Xi:Hid (aC I u2 J):=Xl.o _ (Yo.o.trans Je.tcs);clear Je;cases q4
    all_goals (
     go_wp2_with fail;refine(jL J _ _ _ _ u2 _ _ (Xi.o.below (ao _ _)) (cG I 0 y_ _ _ _).nodes H6).mono ?_;rintro e w5 ⟨Z,rfl,Jj,Jg⟩;simp only[Bl,J9]at Jj Jg;have Xc:=fi Jj (Nat.le_succ I.heap.size);have Jv:Bl I w5:=((Below.refl I.heap.size I).alloc n_ _).trans (Jg.mono (Nat.le_succ _));have Jr:Hid (aW I.heap.size w5 Z _/\Bl I w5):=⟨Xc,Jv⟩;have Ys:I.heap.size<=w5.heap.size:=Jv.size;clear Jj Jg Xc Jv;go_wp2_with(at_builtin;refine jF rfl _ _ rfl I.heap.size _ _ rfl (aW.below Jr.o.1 (ao _ _)) _ _ rfl (cG w5 0 y_ _ _ _).nodes i_ H6 H6 ?_;intro u6 w6 h6 g6 f6;have Jm:=Jl.o I w5 w6 _ _ Z u6 d_ J_.o Jr.o.1 Jr.o.2 h6 g6;clear h6 g6 f6);go_ret;obtain⟨ns,p1,p2,p3⟩:=Jm;exact⟨_,ns,rfl,p1,p2,p3⟩))
  by_cases k6:k=5
  ·subst k6;clear HX;go_wp2_with fail;refine(HI.o _ ⟨.slice ac cs.length cc,.slice ap ps.length cp,.slice av ss.length cv,.slice al U.length cl,m,cs,ps,ss,U⟩ K w1 HZ.o (Jc.o.mono Jd) Jb.o.cur (Jy.o _ Jb.o.tcs) hK).mono ?_;rintro e w2 ⟨u2,J,rfl,Jn,Jh,Ja⟩;have Ji:Hid (Dr g a len cap S w w2):=Jb.o.trans Ja;have Yh:=ah Jn;have Jw:w1.heap.size<=w2.heap.size:=Ja.tcs.size;have Xb:=ah Jh;have Xx:J.length<=ry d:=Jh.1;clear Jn Jh Ja x0 x1 x2 x3 x4;go_wp2_with fail;refine(aE g a len cap S _ _ hl hS Ji.o.cur o_).mono ?_;rintro e w3 ⟨q,rfl,hq,Jf⟩;have Jp:Hid (Dr g a len cap S w w3):=Ji.o.trans Jf;have Xy:Hid (aW w1.heap.size w3 u2 J):=bE Yh.o Jf.tcs (Jc.o.mono Jd).s;have Yp:w1.heap.size<=w3.heap.size:=t_ Jw Jf.tcs.size;clear Jf;go_wp2_with(at_builtin;refine jF rfl _ _ rfl w1.heap.size _ _ rfl (aW.below Xy.o (ao _ _)) _ _ rfl (cG w3 0 y_ _ _ _).nodes i_ H6 H6 ?_;intro u6 w6 h6 g6 f6;have Jm:Hid (aW w.heap.size w6 u6 _/\Dr g a len cap S w w6):=⟨fi h6 Jd,Dr.app (Jp.o.alloc _) Jc.o (aW.below Xy.o (ao _ _)) Jd g6⟩;clear h6 g6 f6)
   go_ret;exact⟨_,_,rfl,Jm.o.1,cI.more (Xb.o.app (cI.one d_)) (by rw[Xe.o];omega),Jm.o.2⟩
  by_cases k7:k=6/\0<cs.length
  ·obtain⟨rfl,Yu⟩:=k7;have Yl:cs.length<=10:=HG.o.c4;have Yy:ps.length<=cs.length/\cs.length<=ps.length:=(by have:ps.length=cs.length:=HG.o.cp;omega);have Yf:(0:Int)<(cs.length:Int):=o_;go_wp2_with fail;refine(aE g a len cap S _ _ hl hS Jb.o.cur o_).mono ?_;rintro e w2 ⟨fz,rfl,hf,Ja⟩;obtain⟨f,rfl⟩:∃f:Nat,fz=f:=⟨fz.toNat,o_⟩;have Xr:f<cs.length:=o_;have Xv:f<ps.length:=o_;have Yg:0<=ps[f]/\ps[f]<=6:=HG.o.pb _ (g_ Xv);have Xw:Hid (cs[f].size<=100000):=HG.o.ns.1 _ (g_ Xr);obtain⟨pf,Js⟩:∃pf:Int,pf=ps[f]:=⟨_,rfl⟩;obtain⟨nm,Jt⟩:∃nm:Io,nm=cs[f]:=⟨_,rfl⟩;have Jk:Hid (aj S w W0):=Xk.o.tcs;have Jx:Hid (Dr g a len cap S W0 w2):=⟨Ja.cur,X_.o.trans Ja.tcs⟩;have Xn:Hid (∀W,aj S W0 W->∃b c b' c',Value.slice ap ps.length cp=rV b ps.length c/\DO W b f (V pf)/\∃Ju,Value.slice ac cs.length cc=.slice (some ⟨b',Ju,none⟩) cs.length c'/\DO W b' (Ju+f) (sV nm)):=λW hW=>by have hg:=Jy.o W (Jk.o.trans hW);have⟨b,c,q1,q2⟩:=ints_at (hg.p W (aj.refl _ _)) f Xv;have⟨b',Ju,c',q3,q4⟩:=nK (hg.c W (aj.refl _ _)) f Xr;rw[Js,Jt];exact⟨b,c,b',c',q1,q2,Ju,q3,q4⟩
   obtain⟨pb,pc,cb,Za,q1,-,Ju,q3,-⟩:=Xn.o w2 Jx.o.tcs;simp only[Value.slice.injEq]at q1 q3;obtain⟨rfl,-,rfl⟩:=q1;obtain⟨rfl,-,rfl⟩:=q3;rw[<-Js]at Yg;rw[<-Jt]at Xw;have Ye:Hid (∀W,aj S W0 W->DO W pb f (V pf)/\DO W cb (Ju+f) (sV nm)):=λW hW=>by have⟨b,c,b',c',q1,q2,Yc,q3,q4⟩:=Xn.o W hW;simp only[Value.slice.injEq,J0,Addr.mk.injEq]at q1 q3;obtain⟨⟨rfl,-,-⟩,-,rfl⟩:=q1;obtain⟨⟨rfl,rfl,-⟩,-,rfl⟩:=q3;exact⟨q2,q4⟩
   have Jw:w1.heap.size<=w2.heap.size:=Ja.tcs.size;have Yv:(f:Int)<(ps.length:Int):=o_;have Ym:(f:Int)<(cs.length:Int):=o_;clear Ja Js Jt Xn x0 x1 x2 x3 x4;have⟨x0,x1,x2,x3,x4⟩:=HX.o w2 Jx.o.tcs;have Xh:Hid (Lo g a len S W0.heap.size):=Jc.o.mono Jk.o.size;go_wp2;go_loopw[12,13,14] (λov i ar wr=>∃j:Nat,(j:Int)<=pf/\i=V j/\∃ns:List Nd,aW w2.heap.size wr ov ns/\cI ns (j*ry d)/\Dr g a len cap S W0 wr/\w2.heap.size<=wr.heap.size) (λ_ i _ _=>pf.toNat-(RowKit.intOf i).toNat)
   case atStart=>exact⟨0,o_,rfl,[],iR w2 w2.heap.size n_,by rw[Nat.zero_mul];exact cI.nil,Jx.o.alloc _,i_⟩
   case round=>
    obtain⟨j,hj,rfl,ns,hr,hn,Xj,Xs⟩:=hrel;have⟨HR,HN,Jz⟩:=h3 hr hn Xj;clear x0 x1 x2 x3 x4;have⟨x0,x1,x2,x3,x4⟩:=HX.o wr Xj.tcs;have⟨y0,y1⟩:=Ye.o wr Xj.tcs;have Y_:ns.length<=6*12441:=t_ hn.1 (Nat.mul_le_mul o_ Yk.2);clear hr hn Xj;by_cases hlt:(j:Int)<pf
    ·go_wp2_with fail;refine(HI.o _ ⟨.slice (some ⟨cb,Ju,none⟩) cs.length cc,rV pb ps.length cp,.slice av ss.length cv,.slice al U.length cl,m,cs,ps,ss,U⟩ K wr HZ.o (Xh.o.mono Jz.o.tcs.size) Jz.o.cur (Jy.o _ (Jk.o.trans Jz.o.tcs)) hK).mono ?_;rintro e I ⟨u4,e4,rfl,Ya,Xo,Je⟩;have Yj:∀k,S k->k<w2.heap.size:=(Xh.o.mono Jx.o.tcs.size).s;have Xq:=bE HR.o Je.tcs Yj;have Yx:e4.length<=ry d:=Xo.1;have J_:Hid (Dr g a len cap S W0 I):=Jz.o.trans Je;have⟨v5,w5,r5,Yb,Xp,Yi⟩:=jJ (w:=I) w2.heap.size 77 _ ns Xq u4 e4 (aW.nodes Ya) o_ (t_ Xs Je.tcs.size);have Jr:Hid (aW w2.heap.size w5 v5 (ns++e4)/\cI (ns++e4) (j*ry d+ry d)/\Dr g a len cap S W0 w5/\w2.heap.size<=w5.heap.size):=⟨Yb,HN.o.app Xo,J_.o.app Xh.o Xq Jx.o.tcs.size Xp,t_ (t_ Xs Je.tcs.size) Xp.size⟩;have Yd:=ah r5;clear Ya Xo Je Xq r5 Yb Xp Yi x0 x1 x2 x3 x4 y0 y1;go_wp2_with(at_builtin;refine ay rfl _ _ _ rfl _ _ _ _ rfl rfl Yd.o ?_)
     go_roundw
     case rel=>exact⟨j+1,o_,by go_num,ns++e4,Jr.o.1,by rw[Nat.succ_mul];exact Jr.o.2.1,Jr.o.2.2.1,Jr.o.2.2.2⟩
     case measure=>exact IF
    go_upto_region 25 with fail;have Yw:(j:Int)<=6:=o_
    go_region_law
     (refine iQ rfl (.tmp 93) (.tmp 105) rfl w2.heap.size _ ns rfl (aW.below HR.o ((r_.drew).alloc n_ _)) _ _ rfl (cG wr.drew 0 y_ _ _ _).nodes H6 H6 ?_
      intro u6 w6 h6 g6 f6;have Jm:Hid (aW w.heap.size w6 u6 _/\Dr g a len cap S W0 w6):=⟨fi h6 (t_ Jd Jw),(Jz.o.below ((r_.drew).alloc n_ _)).app Xh.o (aW.below HR.o ((r_.drew).alloc n_ _)) Jx.o.tcs.size g6⟩;clear h6 g6 f6)
    all_goals (
     go_wp2;go_ret;exact⟨_,rfl,_,Jm.o.1,cI.more (HN.o.app (cI.one Xw)) (by rw[Xe.o];have:=Nat.mul_le_mul_right (ry d) (show j<=6 by omega);omega),⟨Jm.o.2.cur,Jk.o.trans Jm.o.2.tcs⟩⟩)
  have hk6:k=7\/k=8\/9<=k\/(k=6/\(cs.length:Int)<=0):=o_;clear k7;have h9:9<=k->(k == 6)=false/\(k == 7)=false/\(k == 8)=false:=λh=>by simp;omega
  rcases hk6 with rfl|rfl|hk6|⟨rfl,hk6⟩;all_goals (
   clear h9;go_wp2_with fail;refine(HI.o _ ⟨.slice ac cs.length cc,.slice ap ps.length cp,.slice av ss.length cv,.slice al U.length cl,m,cs,ps,ss,U⟩ K w1 HZ.o (Jc.o.mono Jd) Jb.o.cur (Jy.o _ Jb.o.tcs) hK).mono ?_;rintro e w2 ⟨u2,J,rfl,Jn,Jh,Ja⟩;have Ji:Hid (Dr g a len cap S w w2):=Jb.o.trans Ja;have Xl:Hid (∀W,aj S w2 W->aC W u2 J):=gL Jn (Jc.o.mono Jd).s;have Xb:=ah Jh;have Xx:J.length<=ry d:=Jh.1;have Jw:w.heap.size<=w2.heap.size:=Ji.o.tcs.size;have⟨y0,y1,y2,y3,y4⟩:=HX.o w2 (X_.o.trans Ja.tcs);clear Jn Jh Ja x0 x1 x2 x3 x4;go_wp2_with fail;refine(HI.o _ ⟨.slice ac cs.length cc,.slice ap ps.length cp,.slice av ss.length cv,.slice al U.length cl,m,cs,ps,ss,U⟩ K w2 HZ.o (Jc.o.mono Jw) Ji.o.cur (Jy.o _ Ji.o.tcs) hK).mono ?_;rintro e w3 ⟨u3,e3,rfl,Xu,Xm,Jf⟩;have Jp:Hid (Dr g a len cap S w w3):=Ji.o.trans Jf;have Xt:Hid (∀W,aj S w3 W->aC W u3 e3):=gL Xu (Jc.o.mono Jw).s;have Xd:Hid (∀W,aj S w3 W->aC W u2 J):=λW hW=>Xl.o W (Jf.tcs.trans hW);have Yn:=ah Xm;have Yt:e3.length<=ry d:=Xm.1;have Xa:∀(I w5:AT) (Z:BY) (kd vl:Int),Dr g a len cap S w I->aW I.heap.size w5 Z (J++e3++[⟨kd,vl,⟨#[]⟩⟩])->Bl I w5->aW w.heap.size w5 Z (J++e3++[⟨kd,vl,⟨#[]⟩⟩])/\cI (J++e3++[⟨kd,vl,⟨#[]⟩⟩]) (ry (d+1))/\Dr g a len cap S w w5:=λI w5 Z kd vl h4 h5 hb=>⟨fi h5 h4.tcs.size,cI.more ((Xb.o.app Yn).app (cI.one d_)) (by rw[Xe.o];omega),h4.below hb⟩;have Jl:=ah Xa;clear Xu Xm Jf Xa y0 y1 y2 y3 y4;go_wp2_with fail)
  rotate_left 2;all_goals (try (
   refine(aE g a len cap S _ _ hl hS Jp.o.cur o_).mono ?_;rintro e I ⟨x4,rfl,Yq,Je⟩;have J_:Hid (Dr g a len cap S w I):=Jp.o.trans Je;have Xi:Hid (aC I u2 J/\aC I u3 e3):=⟨Xd.o _ Je.tcs,Xt.o _ Je.tcs⟩;clear Je;go_wp2_with fail;refine(jL J e3 _ _ _ u2 u3 _ Xi.o.1 Xi.o.2 o_).mono ?_;rintro e w5 ⟨Z,rfl,Jj,Jg⟩;have Xf:=Jl.o I w5 Z _ _ J_.o Jj Jg;have HE:=ah Xf;clear Jj Jg Xf;go_wp2;go_ret;exact⟨_,_,rfl,HE.o.1,HE.o.2.1,HE.o.2.2⟩))
  all_goals (
   refine(jL J e3 _ _ _ u2 u3 _ (Xd.o _ (aj.refl _ _)) (Xt.o _ (aj.refl _ _)) o_).mono ?_;rintro e w5 ⟨Z,rfl,Jj,Jg⟩;have Xf:=Jl.o w3 w5 Z _ _ Jp.o Jj Jg;have HE:=ah Xf;clear Jj Jg Xf;go_wp2;go_ret;exact⟨_,_,rfl,HE.o.1,HE.o.2.1,HE.o.2.2⟩)
