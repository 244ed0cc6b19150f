import Derived.Test.YtlamjfhhefcohaaGreatDoorP28
import Derived.Deep.Cut
set_option linter.unusedSectionVars false
variable [Inhabited Go.Proofs.YtlamjfhhefcohaaGreatDoor.Pick]
namespace Go.Proofs.YtlamjfhhefcohaaGreatDoor
open Go.Proofs.Tryz
open Go.RowKit
set_option linter.all false
set_option maxRecDepth 100000
set_option maxHeartbeats 16000000
section
variable{B:Nat}{w1 w2 w:World}{v:Value}{ms:List Nd}{k x:Int}{s:ByteArray}
theorem DV{W:World}(hb:Below B W w1)(hB:B<=w1.heap.size)(hr:aF B w1 v ms)(hg:w1.grownBy w2 v.ownBlock):Below B W w2:=hb.grown hg hB (fun j hj=>(World.ownsRow.lt hr j hj).1)
def N1(k x:Int)(s:ByteArray)(p:Nat)(w:World)(v:Value):Prop:=ax w (.slice (some ⟨p,0,none⟩) 1 1) [⟨k,x,s⟩]/\v.ownBlock≠some p
theorem N1.step{p:Nat}{v':Value}(h:N1 k x s p w1 v)(hg:w1.grownBy w2 v.ownBlock)(h3:∀k,v'.ownBlock=some k->v.ownBlock=some k∨w1.heap.size<=k):N1 k x s p w2 v':=by
 have hp:p<w1.heap.size:=by
  obtain⟨a,c,e,-,-,hh⟩:=h.1;obtain⟨b,Ja,e2,hc⟩:=hh i_;simp only[Value.slice.injEq]at e;obtain⟨rfl,-,-⟩:=e;simp at e2;obtain⟨rfl,rfl⟩:=e2;exact b_ (hc 0 i_).1
 refine⟨h.1.grown hg (fun g hg' e=>?_),fun e=>?_⟩
 ·simp only[Value.ownBlock,Option.some.injEq]at hg';subst hg';exact h.2 e
 ·rcases h3 p e with h'|h'
  ·exact h.2 h'
  ·omega
theorem N1.new(h:aF B w v ms):N1 k x s w.heap.size (w.alloc (.cells #[.int .i64 k,.int .i64 x,.string s] 48)) v:=
 ⟨(aQ w 0 y_ k x s).nodes,fun e=>by have:=(World.ownsRow.lt h _ e).2;omega⟩
theorem N1.newA(w:World):N1 k x s w.heap.size ((w.alloc (.cells #[.int .i64 k,.int .i64 x,.string s] 48)).alloc (.cells #[] 48)) (.slice (some ⟨w.heap.size+1,0,none⟩) 0 0):=
 ⟨(aQ w 0 y_ k x s).nodes.below (aD _ _),by simp[Value.ownBlock]⟩
theorem wV(k x:Int)(s:ByteArray)(W:World):
  (aF W.heap.size ((W.drew.alloc (.cells #[] 48)).alloc (.cells #[.int .i64 k,.int .i64 x,.string s] 48)) (.slice (some ⟨W.heap.size,0,none⟩) 0 0) []/\N1 k x s (W.heap.size+1) ((W.drew.alloc (.cells #[] 48)).alloc (.cells #[.int .i64 k,.int .i64 x,.string s] 48)) (.slice (some ⟨W.heap.size,0,none⟩) 0 0)) /\
  (aF W.heap.size ((W.drew.alloc (.cells #[.int .i64 k,.int .i64 x,.string s] 48)).alloc (.cells #[] 48)) (.slice (some ⟨W.heap.size+1,0,none⟩) 0 0) []/\N1 k x s W.heap.size ((W.drew.alloc (.cells #[.int .i64 k,.int .i64 x,.string s] 48)).alloc (.cells #[] 48)) (.slice (some ⟨W.heap.size+1,0,none⟩) 0 0)):=by
 have e:∀o,(W.drew.alloc o).heap.size=W.heap.size+1:=fun o=>by simp
 have a1:=(cE W.drew W.heap.size n_);have a2:=N1.new (k:=k) (x:=x) (s:=s) a1;have a3:=cE (W.drew.alloc (.cells #[.int .i64 k,.int .i64 x,.string s] 48)) W.heap.size i_;rw[e]at a2 a3;exact⟨⟨a1.below (aD _ _),a2⟩,a3,N1.newA W.drew⟩
theorem dX{W0:World}{ops:Array Oper}{o:Oper}{a:Act}{K:Act->World->Prop}{Q:Exit->Act->World->Prop}{E:Prop}(hgd:o.guard=none)(s x:Operand)
  (ho:o.op=.call {callee:=.builtin .append,args:=#[s,x],argTypes:=#[44,44]})
  (v:Value) (ms:List Nd) (hs:a.eval s=v) (hown:aF W0.heap.size w v ms) (hb:Below W0.heap.size W0 w) (u:Value) (ns:List Nd) (hx:a.eval x=u) (hN:ax w u ns)
  (hl:ms.length+ns.length<=10000000)
  (h:∀v' w',aF W0.heap.size w' v' (ms++ns)->Below W0.heap.size W0 w'->w.grownBy w' v.ownBlock->(∀k,v'.ownBlock=some k->v.ownBlock=some k∨w.heap.size<=k)->K (a.put o.dst v') w'):
  if Region.wanted o (yielded ops a.tmps)=true then Oper.wp prog o a w K Q else E:=
 jV hgd s x ho W0.heap.size v ms hs hown u ns hx hN hl hb.size fun v' w' h1 h2 h3=>h v' w' h1 (DV hb hb.size hown h2) h2 h3
theorem iz(xs ys:List Nd)(k x:Int)(s:ByteArray)(va vb:Value)(w:World)(hA:ax w va xs)(hB:ax w vb ys)(hl:xs.length+ys.length<=100000):
    Calls prog 139 #[va,vb,.agg #[.int .i64 k,.int .i64 x,.string s]] w fun e w'=>∃u,e=.returned u/\aF w.heap.size w' u (xs++ys++[⟨k,x,s⟩])/\Below w.heap.size w w':=by
  obtain⟨W,hW⟩:=q_ (w.alloc (.cells #[.int .i64 k,.int .i64 x,.string s] 48));have HW:=ah hW;have Jc:Bl w W:=by rw[hW];exact r_.alloc n_ _
  have Je:w.heap.size<W.heap.size:=by rw[hW];simp
  have Jh:=hA.below Jc;have Jm:=hB.below Jc;obtain⟨aa,ca,rfl,-⟩:=hA;obtain⟨ab,cb,rfl,-⟩:=hB;have HA:Hid (∀W',Bl W W'->ax W' (.slice aa xs.length ca) xs):=fun W' h=>Jh.below h;have HB:=ah fun W' (h:Bl W W')=>Jm.below h;have c0:∀W',Bl W W'->W'.cell? ⟨w.heap.size,0,none⟩=some (.int .i64 k):=fun W' h=>(h.cell (p:=⟨w.heap.size,0,none⟩) Je).trans (by rw[hW];simp);have c1:∀W',Bl W W'->W'.cell? ⟨w.heap.size,1,none⟩=some (.int .i64 x):=fun W' h=>(h.cell (p:=⟨w.heap.size,1,none⟩) Je).trans (by rw[hW];simp);have c2:∀W',Bl W W'->W'.cell? ⟨w.heap.size,2,none⟩=some (.string s):=fun W' h=>(h.cell (p:=⟨w.heap.size,2,none⟩) Je).trans (by rw[hW];simp);have HC:Hid (∀W',Bl W W'->W'.cell? ⟨w.heap.size,0,none⟩=some (.int .i64 k)/\W'.cell? ⟨w.heap.size,1,none⟩=some (.int .i64 x)/\W'.cell? ⟨w.heap.size,2,none⟩=some (.string s)):=fun W' h=>⟨c0 W' h,c1 W' h,c2 W' h⟩;have bd:Bl W W.drew:=r_.drew;obtain⟨d0,d1,d2⟩:=HC.out _ (Below.refl _ W);have b1:Bl W (W.drew.alloc (.cells #[] 48)):=bd.alloc n_ _;have b2:Bl W ((W.drew.alloc (.cells #[] 48)).alloc (.cells #[.int .i64 k,.int .i64 x,.string s] 48)):=b1.alloc b1.size _;have b3:Bl W ((W.drew.alloc (.cells #[.int .i64 k,.int .i64 x,.string s] 48)).alloc (.cells #[] 48)):=(bd.alloc n_ _).alloc i_ _;have Ja:Hid (_/\_/\_):=And.intro b1 (And.intro b2 b3);have Jb:=wV k x s W;have Jb:=ah Jb;clear hW c0 c1 c2 Jh Jm b1 b2 b3 bd;go_enter func139,ntmps139;go_upto_region 1 with fail;rw[<-HW.out];go_region_law
    (first
    | (refine dX (W0:=W) rfl (.tmp 7) (.tmp 8) rfl _ [] rfl ?own ?bel _ xs rfl (HA.out _ ?bel2) (by simp;omega) ?_
       case own=>(first|exact cE W.drew W.heap.size n_|exact Jb.out.1.1|exact Jb.out.2.1)
       case bel=>(first|exact Ja.out.1|exact Ja.out.2.1|exact Ja.out.2.2)
       case bel2=>(first|exact Ja.out.1|exact Ja.out.2.1|exact Ja.out.2.2)
       intro v9 w9 h9 b9 g9 f9;obtain⟨e0,e1,e2⟩:=HC.out w9 b9;have Jr:Bl W (w9.alloc (.cells #[.int .i64 k,.int .i64 x,.string s] 48)):=b9.alloc b9.size _;have Jf:aF W.heap.size w9 v9 xs:=h9;first
       | (have Ji:N1 k x s W.heap.size w9 v9:=N1.step Jb.out.2.2 g9 f9)
       | (have Ji:N1 k x s (W.heap.size+1) w9 v9:=N1.step Jb.out.1.2 g9 f9)
       | skip)
    | (refine dX (W0:=W) rfl (.tmp 9) (.tmp 10) rfl _ xs rfl ?own ?bel _ ys rfl (HB.out _ ?bel2) o_ ?_
       case own=>(first|exact Jf|exact Jf.below (aD _ _))
       case bel=>(first|exact b9|exact Jr)
       case bel2=>(first|exact b9|exact Jr)
       intro Jv Jo h11 Jd Jp Jl;obtain⟨i0,i1,i2⟩:=HC.out Jo Jd;have Jg:Bl W (Jo.alloc (.cells #[.int .i64 k,.int .i64 x,.string s] 48)):=Jd.alloc Jd.size _;first
       | (have Jj:=N1.step Ji Jp Jl)
       | (have Jj:=N1.step (N1.new (k:=k) (x:=x) (s:=s) Jf) Jp Jl)
       | skip)
    | (refine dX (W0:=W) rfl (.tmp 11) (.tmp 13) rfl _ (xs++ys) rfl ?own ?bel _ [⟨k,x,s⟩] rfl ?nod (by simp;omega) ?_
       case own=>(first|exact h11|exact aF.below h11 (aD _ _))
       case bel=>(first|exact Jd|exact Jg)
       case nod=>(first|exact Jj.1|exact(N1.new (k:=k) (x:=x) (s:=s) h11).1)
       intro Jt Jk Jq Jn Js Ju;have HF:Hid (aF w.heap.size Jk Jt (xs++ys++[⟨k,x,s⟩])/\Bl w Jk):=⟨bK Jq Jc.size,Jc.trans (Jn.mono Jc.size)⟩;clear Jq Jn Js Ju))
  all_goals (go_wp2;go_ret;exact⟨_,rfl,HF.out.1,HF.out.2⟩)
end
section
variable{S:Nat->Prop}{w w':World}
theorem zR{x0 x1 x2 x3 x4:Value}{t:TypeId}(h:am S (w.alloc (.cells #[x0,x1,x2,x3,x4] t)) w')(hS:∀k,S k->k<w.heap.size):
  w'.cell? ⟨w.heap.size,0,none⟩=some x0/\w'.cell? ⟨w.heap.size,1,none⟩=some x1/\w'.cell? ⟨w.heap.size,2,none⟩=some x2/\w'.cell? ⟨w.heap.size,3,none⟩=some x3/\w'.cell? ⟨w.heap.size,4,none⟩=some x4:=by
 have e:∀o,w'.cell? ⟨w.heap.size,o,none⟩=(w.alloc (.cells #[x0,x1,x2,x3,x4] t)).cell? ⟨w.heap.size,o,none⟩:=fun o=>c_ (a:=⟨w.heap.size,o,none⟩) (h.block w.heap.size i_ (fun s=>by have:=hS _ s;omega));exact⟨(e 0).trans i_,(e 1).trans i_,(e 2).trans i_,(e 3).trans i_,(e 4).trans i_⟩
theorem jh(ps:List ByteArray)(cs:Array Value)(n:Nat)(hn:n=ps.length)(hcs:cs.toList=ps.map Value.string)(hm:n<=1000)(hS:∀k,S k->k<w.heap.size):∀W,am S (w.alloc (.cells cs 9)) W->Strs W (.slice (some ⟨w.heap.size,0,none⟩) n n) ps:=fun W hW=>by
 subst hn;have h1:(w.alloc (.cells cs 9)).ownsRow w.heap.size 9 1 (.slice (some ⟨w.heap.size,0,none⟩) ps.length ps.length) ps.length cs.toList:=World.ownsRow_lit w cs ps.length n_ (by unfold maxLen;omega) (by rw[<-Array.length_toList,hcs];simp);rw[hcs]at h1;exact e_ (az h1 hW hS)
theorem Dr.box{g:Nat}{a:Option Addr}{len cap:Nat}{o:Obj}(h:Dr g a len cap S (w.alloc o) w'):Dr g a len cap S w w':=⟨h.cur,((am.refl S w).alloc o).trans h.tcs⟩
theorem fd(g:Nat)(a:Option Addr)(len cap:Nat)(S:Nat->Prop)(G:Gn)(K:Nat)(w:World)(hl:len<=1048576)(hL:Lo g a len S w.heap.size)(hc:dP g a len cap w)(hG:eO S w G K)(hK:K<=50000):
  Calls prog 140 #[.pointer (some ⟨g,0,none⟩),.agg #[G.vc,G.vp,G.vs,G.vl,.int .i64 G.m]] w fun e w'=>∃u ns,e=.returned u/\aF w.heap.size w' u ns/\bI ns 1/\Dr g a len cap S w w':=by
 have hS:=hL.sg;obtain⟨vc,vp,vs,vl,m,cs,ps,ss,ls⟩:=G;have HG:=ah hG;obtain⟨ac,cc,e1,-⟩:=hG.c w (am.refl _ _);obtain⟨ap,cp,e2,-⟩:=hG.p w (am.refl _ _);obtain⟨av,cv,e3,-⟩:=hG.s w (am.refl _ _);obtain⟨al,cl,e4,-⟩:=hG.l w (am.refl _ _);dsimp only at e1 e2 e3 e4;subst e1 e2 e3 e4;have Js:ss.length<=K:=hG.sl;dsimp only;generalize hW0:w.alloc (.cells #[.slice ac cs.length cc,.slice ap ps.length cp,.slice av ss.length cv,.slice al ls.length cl,.int .i64 m] 130)=W0;have Jo:=ah hW0;have Jg:Hid (Dr g a len cap S w W0):=by rw[<-hW0];exact(Dr.refl hc).alloc _
 have HX:Hid (∀W,am S W0 W->W.cell? ⟨w.heap.size,2,none⟩=some (.slice av ss.length cv)):=fun W hW=>by rw[<-hW0]at hW;exact(zR hW hL.s).2.2.1
 have Jp:=ah hL;clear hW0 hc hL;go_enter func140,ntmps140;go_upto_region 1 with fail;rw[Jo.out];go_wp2_with fail;refine(aI g a len cap S _ _ hl hS Jg.out.cur o_).mono ?_;rintro e w1 ⟨k,rfl,hk,Jk⟩;have x2:=HX.out w1 Jk.tcs;have Ja:Hid (Dr g a len cap S w w1):=Jg.out.trans Jk;have Ji:w.heap.size<=w1.heap.size:=Ja.out.tcs.size;by_cases h3:k<3/\0<ss.length
 ·obtain⟨Jr,Ju⟩:=h3;have Jq:(0:Int)<(ss.length:Int):=o_
  go_wp2_with fail;refine(eh g a len cap S ss _ w1 hl hS Ja.out.cur (HG.out.tcs Ja.out.tcs).s ⟨o_,o_⟩).mono ?_;rintro e w2 ⟨s,hs,rfl,Jc⟩;have Jb:Hid (Dr g a len cap S w w2):=Ja.out.trans Jc;have HN:Hid (s.size<=100000):=HG.out.ns.2.1 s hs;clear Jc x2;go_wp2;go_ret;exact⟨_,_,rfl,aQ w2 w.heap.size Jb.out.tcs.size _ _ _,bI.one HN,Jb.out.alloc _⟩
 ·have Jf:3<=k∨(k<3/\(ss.length:Int)<=0):=o_
  by_cases e3:k=3
  ·subst e3;go_wp2_with fail;refine(eh g a len cap S [⟨#[103]⟩,⟨#[104]⟩] _ _ hl hS (Ja.out.alloc _).cur (jh _ _ 2 rfl rfl d_ (Jp.out.mono Ji).s) d_).mono ?_;rintro e w2 ⟨s,hs,rfl,Jc⟩;have Jb:Hid (Dr g a len cap S w w2):=Ja.out.trans Jc.box;have HN:Hid (s.size<=100000):=by
    show _<=_;simp at hs;rcases hs with rfl|rfl <;> decide
   clear Jc x2 hs;go_wp2;go_ret;exact⟨_,_,rfl,aQ w2 w.heap.size Jb.out.tcs.size _ _ _,bI.one HN,Jb.out.alloc _⟩
  ·by_cases e4:k=4
   ·subst e4;go_wp2;go_ret;exact⟨_,_,rfl,aQ w1 w.heap.size Ji _ _ _,bI.one d_,Ja.out.alloc _⟩
   ·have HR:Hid (dP g a len cap w1):=Ja.out.cur;have Jh:∀(z:Int) (w2:World),Dr g a len cap S w w2->∃ns,aF w.heap.size (w2.alloc (.cells #[.int .i64 1,.int .i64 z,.string ⟨#[]⟩] 48)) (.slice (some ⟨w2.heap.size,0,none⟩) 1 1) ns/\bI ns 1/\Dr g a len cap S w (w2.alloc (.cells #[.int .i64 1,.int .i64 z,.string ⟨#[]⟩] 48)):=fun z w2 h=>⟨_,aQ w2 w.heap.size h.tcs.size _ _ _,bI.one d_,h.alloc _⟩;have Jd:=ah Jh;clear Jh h3;have Jt:¬(k<3/\0<(ss.length:Int)):=o_
    rcases Jf with Jf|⟨Jf,Jn⟩;all_goals (
     go_wp2_with fail;refine(aI g a len cap S _ _ hl hS HR.out o_).mono ?_;rintro e w2 ⟨z,rfl,hz,Jc⟩;have Jb:Hid (Dr g a len cap S w w2):=Ja.out.trans Jc;go_wp2_with fail;refine(eZ g a len cap S _ _ hl hS Jb.out.cur o_).mono ?_;rintro e w3 ⟨q,rfl,Jj⟩;have Je:Hid (Dr g a len cap S w w3):=Jb.out.trans Jj;clear Jj;cases q with
     | false=>
      go_wp2;go_ret;obtain⟨ns,p1,p2,p3⟩:=Jd.out z w3 Je;exact⟨_,ns,rfl,p1,p2,p3⟩
     | true=>
      go_wp2_with fail;refine(uv g a len cap S _ hl hS Je.out.cur).mono ?_;rintro e w4 ⟨y,rfl,Jl⟩;have Jm:Hid (Dr g a len cap S w w4):=Je.out.trans Jl;go_wp2_with fail;all_goals go_ret
      all_goals (
       obtain⟨ns,p1,p2,p3⟩:=Jd.out _ w4 Jm;exact⟨_,ns,rfl,p1,p2,p3⟩))
end
section
variable{w:World}{v:Value}
theorem Dr.app{g:Nat}{a:Option Addr}{len cap:Nat}{S:Nat->Prop}{w1 w2:World}{B:Nat}{ms:List Nd}(h:Dr g a len cap S w w1)(hL:Lo g a len S w.heap.size)(hr:aF B w1 v ms)(hB:w.heap.size<=B)(hg:w1.grownBy w2 v.ownBlock):Dr g a len cap S w w2:=
 h.new hL (am.of_grown (S:=fun k=>v.ownBlock=some k) hg (fun k hk=>hk)) (fun k hk=>t_ hB (World.ownsRow.lt hr k hk).1)
theorem ints_at{ps:List Int}(h:Ints w v ps)(i:Nat)(hi:i<ps.length):∃b c,v=.slice (some ⟨b,0,none⟩) ps.length c/\w.cell? ⟨b,i,none⟩=some (.int .i64 ps[i]):=by
 obtain⟨a,c,rfl,h⟩:=h;obtain⟨b,rfl,hc⟩:=h o_;exact⟨b,c,rfl,hc i hi⟩
theorem Cu{d:Nat}(h:d<=5):1<=mL d/\mL d<=12441:=by
 have:d=0∨d=1∨d=2∨d=3∨d=4∨d=5:=by omega
 rcases this with rfl|rfl|rfl|rfl|rfl|rfl <;> decide
def Fz(g:Nat)(a:Option Addr)(len cap:Nat)(S:Nat->Prop)(d:Nat):Prop:=∀(z:Int) (G:Gn) (K:Nat) (w:World),z=d->Lo g a len S w.heap.size->dP g a len cap w->eO S w G K->K<=50000 ->
  Calls prog 138 #[.pointer (some ⟨g,0,none⟩),.agg #[G.vc,G.vp,G.vs,G.vl,.int .i64 G.m],.int .i64 z] w fun e w'=>∃u ns,e=.returned u/\aF w.heap.size w' u ns/\bI ns (mL d)/\Dr g a len cap S w w'
theorem lE(g:Nat)(a:Option Addr)(len cap:Nat)(S:Nat->Prop)(hl:len<=1048576)(d:Nat)(hd:d<=5):Fz g a len cap S d:=by
 induction d with
 | zero=>
  intro z G K w hz hL hc hG hK;have hS:=hL.sg;obtain⟨vc,vp,vs,vl,m,cs,ps,ss,ls⟩:=G;have HG:=ah hG;obtain⟨ac,cc,e1,-⟩:=hG.c w (am.refl _ _);obtain⟨ap,cp,e2,-⟩:=hG.p w (am.refl _ _);obtain⟨av,cv,e3,-⟩:=hG.s w (am.refl _ _);obtain⟨al,cl,e4,-⟩:=hG.l w (am.refl _ _);dsimp only at e1 e2 e3 e4;subst e1 e2 e3 e4;obtain rfl:z=0:=by simpa using hz
  dsimp only;clear hG hz;generalize hW0:w.alloc (.cells #[.slice ac cs.length cc,.slice ap ps.length cp,.slice av ss.length cv,.slice al ls.length cl,.int .i64 m] 130)=W0;have Jz:=ah hW0;have Jp:Hid (Dr g a len cap S w W0):=by rw[<-hW0];exact(Dr.refl hc).alloc _
  have HX:Hid (∀W,am S W0 W->_):=fun W hW=>by rw[<-hW0]at hW;exact(zR hW hL.s)
  have Je:=ah hL;clear hW0 hc hL;go_enter func138,ntmps138;go_upto_region 1 with fail;rw[Jz.out];go_wp2_with fail;refine(aI g a len cap S _ _ hl hS Jp.out.cur o_).mono ?_;rintro e w1 ⟨k,rfl,hk,Jn⟩;obtain⟨x0,x1,x2,x3,x4⟩:=HX.out w1 Jn.tcs;have Jb:Hid (Dr g a len cap S w w1):=Jp.out.trans Jn;have Jd:w.heap.size<=w1.heap.size:=Jb.out.tcs.size;clear Jn HX Jz Jp;go_wp2_with fail;refine(fd g a len cap S ⟨.slice ac cs.length cc,.slice ap ps.length cp,.slice av ss.length cv,.slice al ls.length cl,m,cs,ps,ss,ls⟩ K w1 hl (Je.out.mono Jd) Jb.out.cur (HG.out.tcs Jb.out.tcs) hK).mono ?_;rintro e w2 ⟨u,ns,rfl,hr,hn,Ja⟩;have HF:Hid (aF w.heap.size w2 u ns/\bI ns 1/\Dr g a len cap S w w2):=⟨bK hr Jd,hn,Jb.out.trans Ja⟩;clear hr hn Ja x0 x1 x2 x3 x4;go_wp2;go_ret;exact⟨_,_,rfl,HF.out.1,HF.out.2.1,HF.out.2.2⟩
 | succ d ih=>
  intro z G K w hz hL hc hG hK;have Yj:=Cu (d:=d) o_;have HI:Hid (Fz g a len cap S d):=ih o_;clear ih;have hS:=hL.sg;obtain⟨vc,vp,vs,vl,m,cs,ps,ss,ls⟩:=G;have HG:=ah hG;obtain⟨ac,cc,e1,-⟩:=hG.c w (am.refl _ _);obtain⟨ap,cp,e2,-⟩:=hG.p w (am.refl _ _);obtain⟨av,cv,e3,-⟩:=hG.s w (am.refl _ _);obtain⟨al,cl,e4,-⟩:=hG.l w (am.refl _ _);dsimp only at e1 e2 e3 e4;subst e1 e2 e3 e4;have Za:1<=z/\z<=6:=o_;have Xr:z-1=d:=o_;have Yy:(z == 0)=false:=by simp;omega
  have HZ:=ah Xr;have Xc:Hid (mL (d+1)=6*mL d+3):=rfl;dsimp only;clear hG hz Xr;generalize hW0:w.alloc (.cells #[.slice ac cs.length cc,.slice ap ps.length cp,.slice av ss.length cv,.slice al ls.length cl,.int .i64 m] 130)=W0;have Jz:=ah hW0;have Jp:Hid (Dr g a len cap S w W0):=by rw[<-hW0];exact(Dr.refl hc).alloc _
  have HX:Hid (∀W,am S W0 W->_):=fun W hW=>by rw[<-hW0]at hW;exact(zR hW hL.s)
  have Je:=ah hL;have Jw:=ah fun W (h:am S w W)=>HG.out.tcs h;clear hW0 hc hL;go_enter func138,ntmps138;go_upto_region 1 with fail;rw[Jz.out];go_wp2_with fail;refine(aI g a len cap S _ _ hl hS Jp.out.cur o_).mono ?_;rintro e w1 ⟨k,rfl,hk,Jn⟩;obtain⟨x0,x1,x2,x3,x4⟩:=HX.out w1 Jn.tcs;have Jb:Hid (Dr g a len cap S w w1):=Jp.out.trans Jn;have Xs:Hid (am S W0 w1):=Jn.tcs;have Jd:w.heap.size<=w1.heap.size:=Jb.out.tcs.size;have Xq:Hid (Dr g a len cap S w W0):=Jp.out;clear Jn Jz Jp;by_cases k3:k<3
  ·clear HX;go_wp2_with fail;refine(fd g a len cap S ⟨.slice ac cs.length cc,.slice ap ps.length cp,.slice av ss.length cv,.slice al ls.length cl,m,cs,ps,ss,ls⟩ K w1 hl (Je.out.mono Jd) Jb.out.cur (HG.out.tcs Jb.out.tcs) hK).mono ?_;rintro e w2 ⟨u,ns,rfl,hr,hn,Ja⟩;have HF:Hid (aF w.heap.size w2 u ns/\bI ns (mL (d+1))/\Dr g a len cap S w w2):=⟨bK hr Jd,hn.more (by rw[Xc.out];omega),Jb.out.trans Ja⟩;clear hr hn Ja x0 x1 x2 x3 x4;go_wp2;go_ret;exact⟨_,_,rfl,HF.out.1,HF.out.2.1,HF.out.2.2⟩
  ·by_cases k5:k<5
   ·clear HX;go_wp2_with fail;refine(HI.out _ ⟨.slice ac cs.length cc,.slice ap ps.length cp,.slice av ss.length cv,.slice al ls.length cl,m,cs,ps,ss,ls⟩ K w1 HZ.out (Je.out.mono Jd) Jb.out.cur (Jw.out _ Jb.out.tcs) hK).mono ?_;rintro e w2 ⟨u2,e2,rfl,Jo,Jh,Ja⟩;have Ji:Hid (Dr g a len cap S w w2):=Jb.out.trans Ja;have Xn:Hid (∀W,am S w2 W->ax W u2 e2):=fV Jo (Je.out.mono Jd).s;have Xb:=ah Jh;have Xw:e2.length<=mL d:=Jh.1;clear Jo Jh Ja x0 x1 x2 x3 x4;go_wp2_with fail;refine(eZ g a len cap S _ _ hl hS Ji.out.cur o_).mono ?_;rintro e w3 ⟨q,rfl,Jf⟩;have Jq:Hid (Dr g a len cap S w w3):=Ji.out.trans Jf;have Yk:Hid (am S w2 w3):=Jf.tcs;clear Jf;have Xg:∀(w4 w5 w6:World) (mk:Int) (nm:ByteArray) (u5 u6:Value),nm.size<=100000->Dr g a len cap S w w4->aF w4.heap.size w5 u5 (e2++[⟨1,mk,⟨#[]⟩⟩]++[⟨7,13,⟨#[]⟩⟩])->Bl w4 w5->aF w4.heap.size w6 u6 (e2++[⟨1,mk,⟨#[]⟩⟩]++[⟨7,13,⟨#[]⟩⟩]++[⟨3,0,nm⟩])->(w5.alloc (.cells #[.int .i64 3,.int .i64 0,.string nm] 48)).grownBy w6 u5.ownBlock->∃ns,aF w.heap.size w6 u6 ns/\bI ns (mL (d+1))/\Dr g a len cap S w w6:=fun w4 w5 w6 mk nm u5 u6 hnm h4 h5 Jg h6 hg=>by
     refine⟨_,bK h6 h4.tcs.size,?_,?_⟩
     ·refine bI.more (((Xb.out.app (bI.one d_)).app (bI.one d_)).app (bI.one hnm)) ?_;rw[Xc.out];omega
     ·exact Dr.app ((h4.below Jg).alloc _) Je.out (aF.below h5 (aD _ _)) h4.tcs.size hg
    have Jj:=ah Xg;clear Xg;cases q
    all_goals (
     go_wp2_with fail;refine(eZ g a len cap S _ _ hl hS Jq.out.cur o_).mono ?_;rintro e w4 ⟨q4,rfl,Jc⟩;have Xd:Hid (Dr g a len cap S w w4):=Jq.out.trans Jc;have Xj:Hid (ax w4 u2 e2):=Xn.out _ (Yk.out.trans Jc.tcs);clear Jc;cases q4
     all_goals (
      go_wp2_with fail;refine(iz e2 _ _ _ _ u2 _ _ (Xj.out.below (aD _ _)) (aQ w4 0 y_ _ _ _).nodes (by simp;omega)).mono ?_;rintro e w5 ⟨u5,rfl,Jk,Jg⟩;simp only[World.size_alloc]at Jk Jg;have Xe:=bK Jk (Nat.le_succ w4.heap.size);have Jt:Bl w4 w5:=((Below.refl w4.heap.size w4).alloc n_ _).trans (Jg.mono (Nat.le_succ _));have Jm:Hid (aF w4.heap.size w5 u5 _/\Bl w4 w5):=⟨Xe,Jt⟩;have Ys:w4.heap.size<=w5.heap.size:=Jt.size;clear Jk Jg Xe Jt;go_wp2_with(at_builtin;refine j7 rfl _ _ rfl w4.heap.size _ _ rfl (aF.below Jm.out.1 (aD _ _)) _ _ rfl (aQ w5 0 y_ _ _ _).nodes i_ (by simp;omega) (by simp;omega) ?_;intro u6 w6 h6 g6 f6;have Jr:=Jj.out w4 w5 w6 _ _ u5 u6 d_ Xd.out Jm.out.1 Jm.out.2 h6 g6;clear h6 g6 f6);go_ret;obtain⟨ns,p1,p2,p3⟩:=Jr;exact⟨_,ns,rfl,p1,p2,p3⟩))
   ·by_cases k6:k=5
    ·subst k6;clear HX;go_wp2_with fail;refine(HI.out _ ⟨.slice ac cs.length cc,.slice ap ps.length cp,.slice av ss.length cv,.slice al ls.length cl,m,cs,ps,ss,ls⟩ K w1 HZ.out (Je.out.mono Jd) Jb.out.cur (Jw.out _ Jb.out.tcs) hK).mono ?_;rintro e w2 ⟨u2,e2,rfl,Jo,Jh,Ja⟩;have Ji:Hid (Dr g a len cap S w w2):=Jb.out.trans Ja;have Yh:=ah Jo;have Jx:w1.heap.size<=w2.heap.size:=Ja.tcs.size;have Xb:=ah Jh;have Xw:e2.length<=mL d:=Jh.1;clear Jo Jh Ja x0 x1 x2 x3 x4;go_wp2_with fail;refine(aI g a len cap S _ _ hl hS Ji.out.cur o_).mono ?_;rintro e w3 ⟨q,rfl,hq,Jf⟩;have Jq:Hid (Dr g a len cap S w w3):=Ji.out.trans Jf;have Xv:Hid (aF w1.heap.size w3 u2 e2):=az Yh.out Jf.tcs (Je.out.mono Jd).s;have Yw:w1.heap.size<=w3.heap.size:=t_ Jx Jf.tcs.size;clear Jf;go_wp2_with(at_builtin;refine j7 rfl _ _ rfl w1.heap.size _ _ rfl (aF.below Xv.out (aD _ _)) _ _ rfl (aQ w3 0 y_ _ _ _).nodes i_ (by simp;omega) (by simp;omega) ?_;intro u6 w6 h6 g6 f6;have Jr:Hid (aF w.heap.size w6 u6 _/\Dr g a len cap S w w6):=⟨bK h6 Jd,Dr.app (Jq.out.alloc _) Je.out (aF.below Xv.out (aD _ _)) Jd g6⟩;clear h6 g6 f6)
     go_ret;exact⟨_,_,rfl,Jr.out.1,bI.more (Xb.out.app (bI.one d_)) (by rw[Xc.out];omega),Jr.out.2⟩
    ·by_cases k7:k=6/\0<cs.length
     ·obtain⟨rfl,Yp⟩:=k7;have Ym:cs.length<=10:=HG.out.c4;have Yu:ps.length<=cs.length/\cs.length<=ps.length:=by have:ps.length=cs.length:=HG.out.cp;omega
      have Ye:(0:Int)<(cs.length:Int):=o_;go_wp2_with fail;refine(aI g a len cap S _ _ hl hS Jb.out.cur o_).mono ?_;rintro e w2 ⟨fz,rfl,hf,Ja⟩;obtain⟨f,rfl⟩:∃f:Nat,fz=f:=⟨fz.toNat,o_⟩;have Yb:f<cs.length:=o_;have Xz:f<ps.length:=o_;have Yg:0<=ps[f]/\ps[f]<=6:=HG.out.pb _ (g_ Xz);have X_:Hid (cs[f].size<=100000):=HG.out.ns.1 _ (g_ Yb);obtain⟨pf,Jv⟩:∃pf:Int,pf=ps[f]:=⟨_,rfl⟩;obtain⟨nm,Ju⟩:∃nm:ByteArray,nm=cs[f]:=⟨_,rfl⟩;have Jl:Hid (am S w W0):=Xq.out.tcs;have Jy:Hid (Dr g a len cap S W0 w2):=⟨Ja.cur,Xs.out.trans Ja.tcs⟩;have Xo:Hid (∀W,am S W0 W->∃b c b' c',Value.slice ap ps.length cp=.slice (some ⟨b,0,none⟩) ps.length c/\W.cell? ⟨b,f,none⟩=some (.int .i64 pf)/\∃Js,Value.slice ac cs.length cc=.slice (some ⟨b',Js,none⟩) cs.length c'/\W.cell? ⟨b',Js+f,none⟩=some (.string nm)):=fun W hW=>by
       have hg:=Jw.out W (Jl.out.trans hW);obtain⟨b,c,q1,q2⟩:=ints_at (hg.p W (am.refl _ _)) f Xz;obtain⟨b',Js,c',q3,q4⟩:=kF (hg.c W (am.refl _ _)) f Yb;rw[Jv,Ju];exact⟨b,c,b',c',q1,q2,Js,q3,q4⟩
      obtain⟨pb,pc,cb,Yt,q1,-,Js,q3,-⟩:=Xo.out w2 Jy.out.tcs;simp only[Value.slice.injEq]at q1 q3;obtain⟨rfl,-,rfl⟩:=q1;obtain⟨rfl,-,rfl⟩:=q3;rw[<-Jv]at Yg;rw[<-Ju]at X_;have Yo:Hid (∀W,am S W0 W->W.cell? ⟨pb,f,none⟩=some (.int .i64 pf)/\W.cell? ⟨cb,Js+f,none⟩=some (.string nm)):=fun W hW=>by
       obtain⟨b,c,b',c',q1,q2,Yc,q3,q4⟩:=Xo.out W hW;simp only[Value.slice.injEq,Option.some.injEq,Addr.mk.injEq]at q1 q3;obtain⟨⟨rfl,-,-⟩,-,rfl⟩:=q1;obtain⟨⟨rfl,rfl,-⟩,-,rfl⟩:=q3;exact⟨q2,q4⟩
      have Jx:w1.heap.size<=w2.heap.size:=Ja.tcs.size;have Yr:(f:Int)<(ps.length:Int):=o_;have Yd:(f:Int)<(cs.length:Int):=o_;clear Ja Jv Ju Xo x0 x1 x2 x3 x4;obtain⟨x0,x1,x2,x3,x4⟩:=HX.out w2 Jy.out.tcs;have Xh:Hid (Lo g a len S W0.heap.size):=Je.out.mono Jl.out.size;go_wp2;go_loopw[12,13,14] (fun ov i ar wr=>∃j:Nat,(j:Int)<=pf/\i=.int .i64 j/\∃ns:List Nd,aF w2.heap.size wr ov ns/\bI ns (j*mL d)/\Dr g a len cap S W0 wr/\w2.heap.size<=wr.heap.size) (fun _ i _ _=>pf.toNat-(RowKit.intOf i).toNat)
      case atStart=>exact⟨0,o_,rfl,[],cE w2 w2.heap.size n_,by rw[Nat.zero_mul];exact bI.nil,Jy.out.alloc _,i_⟩
      case round=>
       obtain⟨j,hj,rfl,ns,hr,hn,Xi,Xx⟩:=hrel;obtain⟨HR,HN,Xa⟩:=h3 hr hn Xi;clear x0 x1 x2 x3 x4;obtain⟨x0,x1,x2,x3,x4⟩:=HX.out wr Xi.tcs;obtain⟨y0,y1⟩:=Yo.out wr Xi.tcs;have Yz:ns.length<=6*12441:=t_ hn.1 (Nat.mul_le_mul o_ Yj.2);clear hr hn Xi;by_cases hlt:(j:Int)<pf
       ·go_wp2_with fail;refine(HI.out _ ⟨.slice (some ⟨cb,Js,none⟩) cs.length cc,.slice (some ⟨pb,0,none⟩) ps.length cp,.slice av ss.length cv,.slice al ls.length cl,m,cs,ps,ss,ls⟩ K wr HZ.out (Xh.out.mono Xa.out.tcs.size) Xa.out.cur (Jw.out _ (Jl.out.trans Xa.out.tcs)) hK).mono ?_;rintro e w4 ⟨u4,e4,rfl,Xu,Xk,Jc⟩;have Yf:∀k,S k->k<w2.heap.size:=(Xh.out.mono Jy.out.tcs.size).s;have Xm:=az HR.out Jc.tcs Yf;have Yq:e4.length<=mL d:=Xk.1;have Xd:Hid (Dr g a len cap S W0 w4):=Xa.out.trans Jc;obtain⟨v5,w5,r5,Xt,Xp,Yl⟩:=fF (w:=w4) w2.heap.size 44 _ ns Xm u4 e4 (aF.nodes Xu) o_ (t_ Xx Jc.tcs.size);have Jm:Hid (aF w2.heap.size w5 v5 (ns++e4)/\bI (ns++e4) (j*mL d+mL d)/\Dr g a len cap S W0 w5/\w2.heap.size<=w5.heap.size):=⟨Xt,HN.out.app Xk,Xd.out.app Xh.out Xm Jy.out.tcs.size Xp,t_ (t_ Xx Jc.tcs.size) Xp.size⟩;have Yn:=ah r5;clear Xu Xk Jc Xm r5 Xt Xp Yl x0 x1 x2 x3 x4 y0 y1;go_wp2_with(at_builtin;refine ao rfl _ _ _ rfl _ _ _ _ rfl rfl Yn.out ?_)
        go_roundw
        case rel=>exact⟨j+1,o_,by go_num,ns++e4,Jm.out.1,by rw[Nat.succ_mul];exact Jm.out.2.1,Jm.out.2.2.1,Jm.out.2.2.2⟩
        case measure=>simp[RowKit.intOf];omega
       ·go_upto_region 25 with fail;have Yx:(j:Int)<=6:=o_
        go_region_law
         (refine jV rfl (.tmp 93) (.tmp 105) rfl w2.heap.size _ ns rfl (aF.below HR.out ((r_.drew).alloc n_ _)) _ _ rfl (aQ wr.drew 0 y_ _ _ _).nodes (by simp;omega) (by simp;omega) ?_
          intro u6 w6 h6 g6 f6;have Jr:Hid (aF w.heap.size w6 u6 _/\Dr g a len cap S W0 w6):=⟨bK h6 (t_ Jd Jx),(Xa.out.below ((r_.drew).alloc n_ _)).app Xh.out (aF.below HR.out ((r_.drew).alloc n_ _)) Jy.out.tcs.size g6⟩;clear h6 g6 f6)
        all_goals (
         go_wp2;go_ret;exact⟨_,rfl,_,Jr.out.1,bI.more (HN.out.app (bI.one X_)) (by rw[Xc.out];have:=Nat.mul_le_mul_right (mL d) (show j<=6 by omega);omega),⟨Jr.out.2.cur,Jl.out.trans Jr.out.2.tcs⟩⟩)
     ·have hk6:k=7∨k=8∨9<=k∨(k=6/\(cs.length:Int)<=0):=o_
      clear k7;have h9:9<=k->(k == 6)=false/\(k == 7)=false/\(k == 8)=false:=fun h=>by simp;omega
      rcases hk6 with rfl|rfl|hk6|⟨rfl,hk6⟩;all_goals (
       clear h9;go_wp2_with fail;refine(HI.out _ ⟨.slice ac cs.length cc,.slice ap ps.length cp,.slice av ss.length cv,.slice al ls.length cl,m,cs,ps,ss,ls⟩ K w1 HZ.out (Je.out.mono Jd) Jb.out.cur (Jw.out _ Jb.out.tcs) hK).mono ?_;rintro e w2 ⟨u2,e2,rfl,Jo,Jh,Ja⟩;have Ji:Hid (Dr g a len cap S w w2):=Jb.out.trans Ja;have Xn:Hid (∀W,am S w2 W->ax W u2 e2):=fV Jo (Je.out.mono Jd).s;have Xb:=ah Jh;have Xw:e2.length<=mL d:=Jh.1;have Jx:w.heap.size<=w2.heap.size:=Ji.out.tcs.size;obtain⟨y0,y1,y2,y3,y4⟩:=HX.out w2 (Xs.out.trans Ja.tcs);clear Jo Jh Ja x0 x1 x2 x3 x4;go_wp2_with fail;refine(HI.out _ ⟨.slice ac cs.length cc,.slice ap ps.length cp,.slice av ss.length cv,.slice al ls.length cl,m,cs,ps,ss,ls⟩ K w2 HZ.out (Je.out.mono Jx) Ji.out.cur (Jw.out _ Ji.out.tcs) hK).mono ?_;rintro e w3 ⟨u3,e3,rfl,Xy,Xl,Jf⟩;have Jq:Hid (Dr g a len cap S w w3):=Ji.out.trans Jf;have Ya:Hid (∀W,am S w3 W->ax W u3 e3):=fV Xy (Je.out.mono Jx).s;have J_:Hid (∀W,am S w3 W->ax W u2 e2):=fun W hW=>Xn.out W (Jf.tcs.trans hW);have Yi:=ah Xl;have Y_:e3.length<=mL d:=Xl.1;have Xg:∀(w4 w5:World) (u5:Value) (kd vl:Int),Dr g a len cap S w w4->aF w4.heap.size w5 u5 (e2++e3++[⟨kd,vl,⟨#[]⟩⟩])->Bl w4 w5->aF w.heap.size w5 u5 (e2++e3++[⟨kd,vl,⟨#[]⟩⟩])/\bI (e2++e3++[⟨kd,vl,⟨#[]⟩⟩]) (mL (d+1))/\Dr g a len cap S w w5:=fun w4 w5 u5 kd vl h4 h5 hb=>⟨bK h5 h4.tcs.size,bI.more ((Xb.out.app Yi).app (bI.one d_)) (by rw[Xc.out];omega),h4.below hb⟩;have Jj:=ah Xg;clear Xy Xl Jf Xg y0 y1 y2 y3 y4;go_wp2_with fail)
      rotate_left 2;all_goals (try (
       refine(aI g a len cap S _ _ hl hS Jq.out.cur o_).mono ?_;rintro e w4 ⟨x4,rfl,Yv,Jc⟩;have Xd:Hid (Dr g a len cap S w w4):=Jq.out.trans Jc;have Xj:Hid (ax w4 u2 e2/\ax w4 u3 e3):=⟨J_.out _ Jc.tcs,Ya.out _ Jc.tcs⟩;clear Jc;go_wp2_with fail;refine(iz e2 e3 _ _ _ u2 u3 _ Xj.out.1 Xj.out.2 o_).mono ?_;rintro e w5 ⟨u5,rfl,Jk,Jg⟩;have Xf:=Jj.out w4 w5 u5 _ _ Xd.out Jk Jg;have HE:=ah Xf;clear Jk Jg Xf;go_wp2;go_ret;exact⟨_,_,rfl,HE.out.1,HE.out.2.1,HE.out.2.2⟩))
      all_goals (
       refine(iz e2 e3 _ _ _ u2 u3 _ (J_.out _ (am.refl _ _)) (Ya.out _ (am.refl _ _)) o_).mono ?_;rintro e w5 ⟨u5,rfl,Jk,Jg⟩;have Xf:=Jj.out w3 w5 u5 _ _ Jq.out Jk Jg;have HE:=ah Xf;clear Jk Jg Xf;go_wp2;go_ret;exact⟨_,_,rfl,HE.out.1,HE.out.2.1,HE.out.2.2⟩)
end
end Go.Proofs.YtlamjfhhefcohaaGreatDoor
