import Derived.Test.YtffnkkpmlplfeaaGreatDoorF14
import Derived.Test.YtffnkkpmlplfeaaGreatDoorF11
import Derived.Test.YtffnkkpmlplfeaaGreatDoorF22
namespace Go.Proofs.YtffnkkpmlplfeaaGreatDoor
open Go.World List
open Go.RowKit
set_option linter.all false
set_option maxRecDepth 100000
set_option maxHeartbeats 0
variable[Inhabited Pick]
variable{T e:GC}{sz B n B' size g len cap:Nat}{S:D6}{w w' w1 w2:AT}{v:BY}{xs:List BY}{a:Option Addr}
structure fx (T:GC) (sz:Nat) (S:D6) (B:Nat) (w:AT) (v:BY) (n:Nat) (xs:List BY) (P:AT->Prop):Prop where
 row:w.ownsRow B T sz v n xs
 st:∀W,ak (λk=>S k∨v.ownBlock=some k) w W->P W
def aN(h:w.ownsRow B T sz v n xs)(Z:ak S w w')(hS:∀k,S k->k<B):w'.ownsRow B T sz v n xs:=by
 obtain⟨I,h|⟨g,Y,J,rfl,U,h2,h3⟩⟩:=h
 ·exact⟨I,.inl h⟩
 ·exact⟨I,.inr ⟨g,Y,J,rfl,U,(Z.block g (Array.getElem?_eq_some_iff.1 h2).1 (λs=>Ft (hS g s))).trans h2,h3⟩⟩
def dK(h:w.ownsRow B e size v n xs)(Z:B'<=B):w.ownsRow B' e size v n xs:=by
 obtain⟨I,h|⟨g,Y,J,rfl,U,h2,h3⟩⟩:=h
 ·exact⟨I,.inl h⟩
 ·exact⟨I,.inr ⟨g,Y,J,rfl,t_ Z U,h2,h3⟩⟩
def aI(h:w.ownsRow B e size v n xs):∃a c,v=.slice a n c/\(a=none->n=0)/\(∀ad,a=some ad->∀j x,xs[j]? =some x->w.cell? (ad.add j)=some x):=by
 have U:=h;rcases h.2 with⟨rfl,I⟩|⟨g,J,Y,rfl,_⟩
 ·exact⟨none,0,by rw[I],λ_=>I,(λad h=>by cases h)⟩
 ·exact⟨_,J,rfl,(λh=>by cases h),λad had j x hj=>by cases had;exact ownsRow.cells U (g:=g) rfl j x hj⟩
def fx.tcs{P:AT->Prop}(h:fx T sz S B w v n xs P)(ht:ak S w w')(hS:∀k,S k->k<B):fx T sz S B w' v n xs P:=
 ⟨aN h.row ht hS,λW hW=>h.st W ((ht.mono λk hk=>.inl hk).trans hW)⟩
def fx.below{P:AT->Prop}(h:fx T sz S B w v n xs P)(hb:Bl w w'):fx T sz S B w' v n xs P:=
 ⟨ownB h.row hb,λW hW=>h.st W (hb.tcs.trans hW)⟩
def fx.low{P:AT->Prop}(h:fx T sz S B w v n xs P)(hb:B'<=B):fx T sz S B' w v n xs P:=⟨dK h.row hb,h.st⟩
def fx.less{S':D6}{P:AT->Prop}(h:fx T sz S B w v n xs P)(hs:∀k,S' k->S k):fx T sz S' B w v n xs P:=
 ⟨h.row,λW hW=>h.st W (hW.mono λk hk=>hk.imp (hs k) id)⟩
def fx.now{P:AT->Prop}(h:fx T sz S B w v n xs P):P w:=h.st w (ak.refl _ _)
def fx.nil{P:AT->Prop}(h:∀W,P W):fx T sz S B w nV 0 [] P:=⟨ownsRow_nil _ _ _ _,λW _=>h W⟩
def mt{Pg:Program}{t:GC}{bytes m c:Nat}{z:BY}{i:TypeInfo}{us:List BY}{P P2:AT->Prop}(U:GC)
  (ht:Pg.underlying t=some (.slice T)) (hi:Pg.info? T=some i) (hz:i.zero=some z) (Ja:i.size=sz) (Je:i.bytes=bytes) (Jf:z.cells.size=sz) (Jb:0<sz)
  (h:fx T sz S B w v n xs P) (a:Option Addr) (hn:a=none->m=0) (hl:us.length=m*sz) (hc:∀ad,a=some ad->∀j u,us[j]? =some u->w.cell? (ad.add j)=some u) (h1:∀u∈us,u.oneCell'=true)
  (Jc:∀W,ak (λk=>S k∨v.ownBlock=some k) w W->P2 W) (hm:n+m<=10000000) (Jd:bytes<=1000) (hB:B<=w.heap.size):
  ∃v' w',(Builtin.append_ #[t,t] U #[v,.slice a m c]).run Pg w=.ok v' w'/\fx T sz S B w' v' (n+m) (xs++us) (λW=>P W/\P2 W)/\ak (λk=>v.ownBlock=some k) w w'/\∀k,v'.ownBlock=some k->v.ownBlock=some k∨w.heap.size<=k:=by
 obtain⟨v',w',r1,Y,Z,I⟩:=cE (P:=Pg) (w:=w) B t U T i z sz bytes ht hi hz Ja Je Jf Jb v n xs h.row a m c us hn hl hc h1 hm Jd hB;have J:ak (λk=>v.ownBlock=some k) w w':=ak.of_grown Z (λk hk=>hk);refine⟨v',w',r1,⟨Y,λW hW=>?_⟩,J,I⟩;have:ak (λk=>S k∨v.ownBlock=some k) w W:=by
  refine(J.mono λk hk=>.inr hk).next hW λx hx=>?_;rcases hx with hx|hx
  ·exact .inl (.inl hx)
  ·rcases I x hx with h|h
   ·exact .inl (.inr h)
   ·exact .inr h
 exact⟨h.st W this,Jc W this⟩
def Dr.refl(h:dS g a len cap w):Dr g a len cap S w w:=⟨h,ak.refl _ _⟩
def Dr.trans(h:Dr g a len cap S w w1)(h':Dr g a len cap S w1 w2):Dr g a len cap S w w2:=⟨h'.cur,h.tcs.trans h'.tcs⟩
def Dr.below(h:Dr g a len cap S w w1)(h':Bl w1 w2):Dr g a len cap S w w2:=⟨h.cur.below h',h.tcs.of_below h'⟩
def Dr.new{T:D6}(h:Dr g a len cap S w w1)(hL:Lo g a len S w.heap.size)(ht:ak T w1 w2)(hT:∀k,T k->w.heap.size<=k):Dr g a len cap S w w2:=
 ⟨h.cur.new hL ht hT,h.tcs.next ht λx hx=>.inr (hT x hx)⟩
def Dr.alloc(h:Dr g a len cap S w w1)(o:Obj):Dr g a len cap S w (w1.alloc o):=h.below (r_.alloc n_ o)
def gd{e:List Nd}(h:aV B w v e)(hS:∀k,S k->k<B):∀W,ak S w W->aw W v e:=λW hW=>aV.nodes (B:=B) (aN h hW hS)
def fV{I:List GA}(h:w.ownsRow B 9 1 v I.length (I.map Value.string)):a_ w v I:=by
 have h0:=h;rcases h.2 with⟨rfl,U⟩|⟨g,Y,Jb,rfl,h3,h4,h5⟩
 ·exact⟨none,0,by rw[U],by rw[U];exact n_,o_,λhp=>absurd hp o_⟩
 ·obtain⟨Z,J,-⟩:=h5;unfold maxLen at J;refine⟨_,Y,rfl,Z,J,λ_=>⟨g,0,rfl,λj hj=>?_⟩⟩;have:=ownsRow.cells h0 (g:=g) rfl j (sV I[j]) (by simp[GH hj])
  rwa[em]at this
end Go.Proofs.YtffnkkpmlplfeaaGreatDoor
