import Derived.Deep.RegionHeld3
import Derived.Test.YtngnoopnloojjaaGreatDoorQ07
import Derived.Test.YtngnoopnloojjaaGreatDoorQ65
variable [Inhabited Go.Proofs.YtngnoopnloojjaaGreatDoor.Pick]
namespace Go.Proofs.YtngnoopnloojjaaGreatDoor
open Go.World List
set_option linter.all false
set_option maxRecDepth 100000
set_option maxHeartbeats 0


end Go.Proofs.YtngnoopnloojjaaGreatDoor
namespace Go.Proofs.YtngnoopnloojjaaGreatDoor
open Go.World List
open Go.Proofs.Tryz
set_option linter.all false
set_option maxRecDepth 100000
set_option maxHeartbeats 0
section
open Go.RowKit
variable{n:Nat}{s:PS}
theorem Fz{T:Nat->To}{m:Int}{o:List Nd}{a:List Nd}{H:PS}(h:Pa T n (.lp m o) s (.n a) H):
  (s.er≠0/\a=o/\H=s)\/(s.er=0/\(∀x,rM T s=some x->x.2.2<m)/\a=o/\H=s) \/
  (s.er=0/\∃k x b s1,n=k+1/\rM T s=some x/\m<=x.2.2/\Pa T k (.e (x.2.2+1)) s.ad (.n b) s1/\Pa T k (.lp m (o++b++[x.2.1])) s1 (.n a) H):=by
 cases h using Pa_i with
 | lpd n m o s h1=>exact .inl ⟨h1,rfl,rfl⟩
 | lps n m o s h1 h2=>exact .inr (.inl ⟨h1,h2,rfl,rfl⟩)
 | lpm n m o s x b s1 r H h1 h2 h3 h4 h5=>exact .inr (.inr ⟨h1,_,x,b,s1,rfl,h2,h3,h4,h5⟩)
end
section
open Go.RowKit
variable{n:Nat}{s:PS}
theorem LB{T:Nat->To}{x y:List UInt8}{a:List Nd}{H:PS}(h:Pa T (n+1) (.pr x y) s (.n a) H):
  ((dP T x s).er≠0/\a=[]/\H=iz T y (dP T x s))\/((dP T x s).er=0/\∃s1,Pa T n (.e 1) (dP T x s) (.n a) s1/\H=iz T y s1):=by
 cases h using Pa_i with
 | prd n x y s h1=>exact .inl ⟨h1,rfl,rfl⟩
 | pre n x y s a s1 h1 h2=>exact .inr ⟨h1,s1,h2,rfl⟩
end
section
open Go.RowKit
theorem FA{T:Nat->To}{n:Nat}{k:Int}{o:List Nd}{s:PS}{a:List Nd}{I:Int}{H:PS}(h:Pa T n (.al k o) s (.a a I) H):
  (s.er≠0/\a=o/\I=k/\H=s)\/(s.er=0/\¬0<k/\aJ T [41] s=true/\a=o/\I=k/\H=s) \/
  (s.er=0/\(0<k\/aJ T [41] s=false)/\∃m b s1,n=m+1/\Pa T m (.e 1) s (.n b) s1 /\
   ((aJ T [44] s1=false/\a=o++b/\I=k+1/\H=s1)\/(aJ T [44] s1=true/\Pa T m (.al (k+1) (o++b)) s1.ad (.a a I) H))):=by
 cases h using Pa_i with
 | ald n k o s h1=>exact .inl ⟨h1,rfl,rfl,rfl⟩
 | al0 n k o s h1 h2 h3=>exact .inr (.inl ⟨h1,h2,h3,rfl,rfl,rfl⟩)
 | ale n k o s b H h1 h2 h3 h4=>exact .inr (.inr ⟨h1,h2,_,b,_,rfl,h3,.inl ⟨h4,rfl,rfl,rfl⟩⟩)
 | alm n k o s b s1 r H h1 h2 h3 h4 h5=>exact .inr (.inr ⟨h1,h2,_,b,s1,rfl,h3,.inr ⟨h4,h5⟩⟩)
end
section
open Go.RowKit
variable{B:Nat}{v:BY}
def IU(g:Gl):List BY:=[sV g.nm,V g.size]
def AR(gs:List Gl):List BY:=gs.flatMap IU
theorem sP:∀(gs:List Gl) (j i:Nat) (hj:j<gs.length),i<2->(AR gs)[j*2+i]? =(IU gs[j])[i]?
 | x::l,0,i,_,hi=>by
  have:(IU x).length=2:=rfl
  show(IU x++AR l)[0*2+i]? =_;rw[getElem?_append_left (by omega)];simp
 | x::l,j+1,i,hj,hi=>by
  have h7:(IU x).length=2:=rfl;show(IU x++AR l)[(j+1)*2+i]? =_;rw[getElem?_append_right (by omega)];have e:(j+1)*2+i-(IU x).length=j*2+i:=by omega
  rw[e,sP l j i (D4 hj) hi];simp
end
section
open Go.RowKit
variable{x y:List UInt8}{s s':PS}{n:Nat}{a:List Nd}
def lF{T:Nat->To}(h:aJ T x s=true)(I:x≠y):aJ T y s=false:=by obtain⟨-,-,-,H⟩:=eI h;unfold aJ;rw[H];have:¬tx x=tx y:=λe=>I (by unfold tx at e;simpa using e);simp[this]
def zt{T:Nat->To}(h:(T s.i).kd=2):aJ T y s=false:=by unfold aJ wdB;rw[h];simp
def wK(k:Nat)(h:k<3):i6[k]'h=i6.getD k []:=by rcases(show k=0\/k=1\/k=2 by omega)with rfl|rfl|rfl <;> rfl
def NX{k j:Nat}(H:k<3)(I:j<3)(h:k≠j):i6.getD k []≠i6.getD j []:=by rcases(show k=0\/k=1\/k=2 by omega)with rfl|rfl|rfl <;> rcases(show j=0\/j=1\/j=2 by omega)with rfl|rfl|rfl <;> simp_all [i6]
def zu{T:Nat->To}(h:∀x∈i6,aJ T x s=false)(k:Nat)(H:k<3):aJ T (i6.getD k []) s=false:=by rw[<-wK k H];exact h _ (g_ _)
theorem JS{T:Nat->To}(h:Pa T (n+1) .o s (.n a) s'):
  (∃k,k<3/\aJ T (i6.getD k []) s=true/\(((dP T (i6.getD k []) s).er=0/\∃b s1,Pa T n .o (dP T (i6.getD k []) s) (.n b) s1/\a=b++[⟨6,(k:Int),tx []⟩]/\s'={s1 with op:=s1.op-1}) \/
   ((dP T (i6.getD k []) s).er≠0/\a=[⟨6,(k:Int),tx []⟩]/\s'={dP T (i6.getD k []) s with op:=(dP T (i6.getD k []) s).op-1}))) \/
  ((∀k,k<3->aJ T (i6.getD k []) s=false)/\(
   (aJ T [40] s=true/\Pa T n (.pr [40] [41]) s (.n a) s') \/
   (aJ T [40] s=false/\aJ T [105,110] s=true/\a=[⟨5,0,tx []⟩]/\s'=iz T [41] (dP T [40] s.ad)) \/
   (aJ T [40] s=false/\aJ T [105,110] s=false/\s.er=0/\(T s.i).kd=2/\a=[⟨1,(T s.i).num,tx []⟩]/\s'=s.ad) \/
   (aJ T [40] s=false/\aJ T [105,110] s=false/\¬(s.er=0/\(T s.i).kd=2)/\(
    (aJ T [91] (cW T s).2=true/\∃b,Pa T n (.pr [91] [93]) (cW T s).2 (.n b) s'/\a=b++[⟨3,0,(cW T s).1⟩]) \/
    (aJ T [91] (cW T s).2=false/\aJ T [40] (cW T s).2=true/\Pa T n (.ar (cW T s).1) (cW T s).2 (.n a) s') \/
    (aJ T [91] (cW T s).2=false/\aJ T [40] (cW T s).2=false/\a=[⟨2,0,(cW T s).1⟩]/\s'=(cW T s).2))))):=by
 have H:∀x:List UInt8,aJ T x s=true->x∉i6->∀k,k<3->aJ T (i6.getD k []) s=false:=λx h hn k hk=>lF h (λe=>hn (by rw[e,<-wK k hk];exact g_ _));cases h using Pa_i with
 | oun n k hk s b s1 h1 h2 h3=>rw[wK]at h1 h2 h3;exact .inl ⟨k,hk,h1,.inl ⟨h2,b,s1,h3,rfl,rfl⟩⟩
 | oud n k hk s h1 h2=>rw[wK]at h1 h2;exact .inl ⟨k,hk,h1,.inr ⟨h2,rfl,by rw[wK]⟩⟩
 | opa n s r s' h1 h2=>exact .inr ⟨H _ h1 (by decide),.inl ⟨h1,h2⟩⟩
 | oin n s h1=>exact .inr ⟨H _ h1 (by decide),.inr (.inl ⟨lF h1 (by decide),h1,rfl,rfl⟩)⟩
 | onu n s h1 h2=>exact .inr ⟨λk hk=>zt h2,.inr (.inr (.inl ⟨zt h2,zt h2,h1,h2,rfl,rfl⟩))⟩
 | oix n s b s' h1 h2 h3=>exact .inr ⟨zu h1.un,.inr (.inr (.inr ⟨h1.par,h1.inn,h1.num,.inl ⟨h2,b,h3,rfl⟩⟩))⟩
 | oca n s r s' h1 h2 h3 h4=>exact .inr ⟨zu h1.un,.inr (.inr (.inr ⟨h1.par,h1.inn,h1.num,.inr (.inl ⟨h2,h3,h4⟩)⟩))⟩
 | ova n s h1 h2 h3=>exact .inr ⟨zu h1.un,.inr (.inr (.inr ⟨h1.par,h1.inn,h1.num,.inr (.inr ⟨h2,h3,rfl,rfl⟩)⟩))⟩
theorem AS{T:Nat->To}(h:Pa T n (.pr x y) s (.n a) s'):
  ((dP T x s).er≠0/\a=[]/\s'=iz T y (dP T x s))\/((dP T x s).er=0/\∃s1,Pa T n (.e 1) (dP T x s) (.n a) s1/\s'=iz T y s1):=by
 cases n with
 | zero=>first | cases h using Pa_i | cases h
 | succ n=>rcases LB h with H|⟨I,s1,H,h2⟩;exact .inl H;exact .inr ⟨I,s1,H.up,h2⟩
end
section
open Go.RowKit
variable{B:Nat}{w w':AT}{v:BY}{l:List St}
theorem IV(l:List St):l.length<=oy l:=by
 induction l with
 | nil=>exact n_
 | cons s l ih=>rw[j_];simp only[l_c];omega
end
section
open Go.RowKit
theorem LC{T:Nat->To}{n:Nat}{o:List St}{s:PS}{a:List St}{H:PS}(h:Pa T n (.bs o) s (.s a) H):
  (s.er≠0/\a=o/\H=s)\/(s.er=0/\aJ T [125] s=true/\a=o/\H=s) \/
  (s.er=0/\aJ T [125] s=false/\∃m b s1,n=m+1/\Pa T m .st s (.s b) s1/\Pa T m (.bs (o++b)) s1 (.s a) H):=by
 cases h using Pa_i with
 | bsd n o s h1=>by_cases h0:s.er=0;exact .inr (.inl ⟨h0,h1.resolve_left (λh=>h h0),rfl,rfl⟩);exact .inl ⟨h0,rfl,rfl⟩
 | bsm n o s b s1 r H h1 h2 h3 h4=>have I:∃l,PR.s b=.s l:=⟨b,rfl⟩;exact .inr (.inr ⟨h1,h2,_,b,s1,rfl,h3,h4⟩)
end
section
open Go.RowKit
def zv(B:Nat)(w:AT)(v:BY)(ps:List IF):Prop:=w.ownsRow B 9 1 v ps.length (ps.map Value.string)
def FB{w W:AT}{B b:Nat}{v:BY}{H:List IF}(x:IF)(h:zv B w v H)(hB:B<=w.heap.size)(hl:H.length<=2000000)(I:W=w.alloc (.cells #[sV x] 9))(hb:b=w.heap.size):
  ∃v' w',(Builtin.append_ #[25,25] 25 #[v,rV b 1 1]).run prog W=.ok v' w'/\zv B w' v' (H++[x])/\aA (λk=>v.ownBlock=some k) w w'/\∀k,v'.ownBlock=some k->v.ownBlock=some k\/w.heap.size<=k:=by
 have⟨J,Z,Jd,Je,Jc⟩:=info_parts E_;have Ja:Bl w W:=by rw[I];exact r_.alloc n_ _
 have Jb:W.ownsRow w.heap.size 9 1 (rV b 1 1) 1 [sV x]:=by rw[I,hb];exact ownsRow_lit w #[sV x] 1 n_ (by decide) rfl
 have⟨v',w',Y,O,X,U⟩:=ii (P:=prog) (w:=W) B 25 25 9 J _ 1 16 underlying25 Z Jd Je Jc rfl (by decide) v H.length (H.map Value.string) (ownB h Ja) (some ⟨b,0,none⟩) 1 1 [sV x] (λe=>by cases e) rfl (λad had j u hu=>by cases had;exact ownsRow.cells Jb (g:=b) rfl j u hu) (λu hu=>by simp at hu;subst hu;rfl) (by omega) (by decide) (t_ hB Ja.size);refine⟨v',w',Y,?_,Ja.tcs.trans (aA.of_grown X (λk h=>h)),λk hk=>?_⟩
 show ownsRow _ _ _ _ _ _ _;rw[l_a,map_append];exact O;rcases U k hk with h1|h1;exact .inl h1;exact .inr (t_ Ja.size h1)
theorem FC{T:Nat->To}{n:Nat}{o:List IF}{s:PS}{a:List IF}{I:PS}(h:Pa T n (.pl o) s (.p a) I):
  (s.er≠0/\a=o/\I=s)\/(s.er=0/\o=[]/\aJ T [41] s=true/\a=o/\I=s) \/
  (s.er=0/\(o≠[]\/aJ T [41] s=false)/\((aJ T [44] (iR T s).2=false/\a=o++[(iR T s).1]/\I=(iR T s).2)\/(aJ T [44] (iR T s).2=true/\∃m,n=m+1/\Pa T m (.pl (o++[(iR T s).1])) (iR T s).2.ad (.p a) I))):=by
 cases h using Pa_i with
 | pld n o s H=>by_cases h0:s.er=0;rcases H with H|⟨H,h2⟩;exact absurd h0 H;exact .inr (.inl ⟨h0,H,h2,rfl,rfl⟩);exact .inl ⟨h0,rfl,rfl⟩
 | ple n o s H h2 h3=>exact .inr (.inr ⟨H,h2,.inl ⟨h3,rfl,rfl⟩⟩)
 | plm n o s r I H h2 h3 h4=>exact .inr (.inr ⟨H,h2,.inr ⟨h3,_,rfl,h4⟩⟩)
end
end Go.Proofs.YtngnoopnloojjaaGreatDoor
