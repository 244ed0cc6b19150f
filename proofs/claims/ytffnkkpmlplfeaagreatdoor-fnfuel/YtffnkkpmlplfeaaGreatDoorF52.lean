import Derived.Test.YtffnkkpmlplfeaaGreatDoorF51
import Derived.Deep.RegionHeld3
namespace Go.Proofs.YtffnkkpmlplfeaaGreatDoor
open Go.World List
open Go.Proofs.Tryz Go.RowKit
set_option linter.all false
set_option maxRecDepth 100000
set_option maxHeartbeats 0
variable[Inhabited Pick]
theorem EP(s:St)(hk:s.kind=4)(ve vf va vb:Value)(S:Nat->Prop)(w:World)(hT:dq w)(hN:aw w ve s.e)(hF:∃a n c,vf=.slice a n c)(ho:aP s.e=true)(hl:s.e.length<=2000)(hS:∀B,S B->B<w.heap.size)(A B:Nat)(vs us:Nat->Value)(F H:Nat->List St)(Jh:fY w S va A vs)(Jr:∀i,i<A->Bv w S (vs i) (F i))(Ji:fY w S vb B us)(Jq:∀i,i<B->Bv w S (us i) (H i))(h0:s.thn=(cG F A).length/\s.els=(cG H B).length):
  Calls prog 109 #[.agg #[V s.kind,sV s.name,ve,vf,V s.thn,V s.els],va,vb] w λe w'=>∃(u:Value) (S':Nat->Prop),e=rW u/\Bv w' (λB=>S B∨S' B) u (s::cG F A++cG H B)/\(∀B,S' B->w.heap.size<=B/\B<w'.heap.size)/\Below w.heap.size w w':=by
 have HR:=ah λW (hW:Bl w W)=>eo _ s.e W (hT.below hT.size hW) (hN.below hW) ho hl;obtain⟨af,nf,cf,rfl⟩:=hF;obtain⟨ae,ce,rfl,-⟩:=hN;obtain⟨W0,J⟩:=q_ (w.alloc (.cells #[V s.kind,sV s.name,.slice ae s.e.length ce,.slice af nf cf,V s.thn,V s.els] 132));have I:Bl w W0:=by rw[J];exact r_.alloc n_ _
 have Jg:w.heap.size<W0.heap.size:=by rw[J];simp
 have HX:Hid (∀W,Bl W0 W->W.cell? ⟨w.heap.size,0,none⟩=some (V s.kind)/\W.cell? ⟨w.heap.size,1,none⟩=some (sV s.name)):=λW hW=>by
  rw[hW.cell (p:=⟨w.heap.size,0,none⟩) Jg,hW.cell (p:=⟨w.heap.size,1,none⟩) Jg,J];exact⟨i_,i_⟩
 have Jl:=ah J;have Jf:∀W (S':Nat->Prop) x,Bl W0 W->Tv W S' x s.e->(∀B,S' B->W0.heap.size<=B/\B<W.heap.size)->Bv W (λB=>S B∨S' B) (.iface 218 (.agg #[x,va,vb])) (s::cG F A++cG H B):=λW S' x hb U Y=>by
  have Z:=I.trans (hb.mono I.size);have Jn:=U.keep (S':=λB=>S B∨S' B) (λB h=>.inr h) (λB _=>rfl);exact .ifs s x va vb A B vs us F H hk Jn (Jh.keep (λB h=>.inl h) (λB hB=>Z.block B (hS B hB))) (λi hi=>(Jr i hi).keep (λB h=>.inl h) (λB hB=>Z.block B (hS B hB))) (Ji.keep (λB h=>.inl h) (λB hB=>Z.block B (hS B hB))) (λi hi=>(Jq i hi).keep (λB h=>.inl h) (λB hB=>Z.block B (hS B hB))) h0.1 h0.2
 have Jj:=ah Jf;obtain⟨aa,ca,Jm,-⟩:=Jh;obtain⟨ab,cb,Jk,-⟩:=Ji;subst Jm;subst Jk;have HK:=ah hk;clear J Jf hT hk h0;go_in;go_wp2_with fail;rw[<-Jl.out];refine(HR.out _ I).mono ?_;rintro e w1 ⟨u,S',rfl,U,Y,Je⟩;have HU:=ah (Jj.out w1 S' u Je U Y);obtain⟨x0,x1⟩:=HX.out w1 Je;rw[HK.out]at x0;obtain⟨t,y,rfl⟩:=U.isI;have Jo:=I.trans (Je.mono I.size);have Jp:Hid (∀B,S' B->w.heap.size<=B/\B<w1.heap.size):=λB hB=>⟨t_ I.size (Y B hB).1,(Y B hB).2⟩;go_wp2;go_ret;exact⟨_,S',rfl,HU,Jp,Jo⟩
theorem EQ(s:St)(hk:s.kind=5)(ve vf Z vb:Value)(S:Nat->Prop)(w:World)(hT:dq w)(hN:aw w ve s.e)(hF:∃a n c,vf=.slice a n c)(ho:aP s.e=true)(hl:s.e.length<=2000)(hS:∀B,S B->B<w.heap.size)(A:Nat)(vs:Nat->Value)(F:Nat->List St)(Jh:fY w S Z A vs)(Jo:∀i,i<A->Bv w S (vs i) (F i))(h0:s.thn=(cG F A).length/\s.els=0):
  Calls prog 109 #[.agg #[V s.kind,sV s.name,ve,vf,V s.thn,V s.els],Z,vb] w λe w'=>∃(u:Value) (S':Nat->Prop),e=rW u/\Bv w' (λB=>S B∨S' B) u (s::cG F A)/\(∀B,S' B->w.heap.size<=B/\B<w'.heap.size)/\Below w.heap.size w w':=by
 have HR:=ah λW (hW:Bl w W)=>eo _ s.e W (hT.below hT.size hW) (hN.below hW) ho hl;obtain⟨af,nf,cf,rfl⟩:=hF;obtain⟨ae,ce,rfl,-⟩:=hN;obtain⟨W0,J⟩:=q_ (w.alloc (.cells #[V s.kind,sV s.name,.slice ae s.e.length ce,.slice af nf cf,V s.thn,V s.els] 132));have I:Bl w W0:=by rw[J];exact r_.alloc n_ _
 have Jf:w.heap.size<W0.heap.size:=by rw[J];simp
 have HX:Hid (∀W,Bl W0 W->W.cell? ⟨w.heap.size,0,none⟩=some (V s.kind)/\W.cell? ⟨w.heap.size,1,none⟩=some (sV s.name)):=λW hW=>by
  rw[hW.cell (p:=⟨w.heap.size,0,none⟩) Jf,hW.cell (p:=⟨w.heap.size,1,none⟩) Jf,J];exact⟨i_,i_⟩
 have Jj:=ah J;have Je:∀W (S':Nat->Prop) x,Bl W0 W->Tv W S' x s.e->(∀B,S' B->W0.heap.size<=B/\B<W.heap.size)->Bv W (λB=>S B∨S' B) (.iface 220 (.agg #[x,Z])) (s::cG F A):=λW S' x hb U Y=>by
  have Jg:=I.trans (hb.mono I.size);have Jl:=U.keep (S':=λB=>S B∨S' B) (λB h=>.inr h) (λB _=>rfl);exact .whil s x Z A vs F hk Jl (Jh.keep (λB h=>.inl h) (λB hB=>Jg.block B (hS B hB))) (λi hi=>(Jo i hi).keep (λB h=>.inl h) (λB hB=>Jg.block B (hS B hB))) h0.1 h0.2
 have Ji:=ah Je;obtain⟨aa,ca,Jk,-⟩:=Jh;subst Jk;have HK:=ah hk;clear J Je hT hk h0;go_in;go_wp2_with fail;rw[<-Jj.out];refine(HR.out _ I).mono ?_;rintro e w1 ⟨u,S',rfl,U,Y,Jd⟩;have HU:=ah (Ji.out w1 S' u Jd U Y);obtain⟨x0,x1⟩:=HX.out w1 Jd;rw[HK.out]at x0;obtain⟨t,y,rfl⟩:=U.isI;have Jm:=I.trans (Jd.mono I.size);have Jn:Hid (∀B,S' B->w.heap.size<=B/\B<w1.heap.size):=λB hB=>⟨t_ I.size (Y B hB).1,(Y B hB).2⟩;go_wp2;go_ret;exact⟨_,S',rfl,HU,Jn,Jm⟩
theorem ET(s:St)(hk:s.kind=3)(ve vf va vb:Value)(S:Nat->Prop)(w:World)(hT:dq w)(hN:aw w ve s.e)(Jm:aw w vf s.f)(ho:aP s.e=true)(hl:s.e.length<=2000)(Jt:aP s.f=true)(Js:s.f.length<=2000)(h0:s.thn=0/\s.els=0):
  Calls prog 109 #[.agg #[V s.kind,sV s.name,ve,vf,V s.thn,V s.els],va,vb] w λe w'=>∃(u:Value) (S':Nat->Prop),e=rW u/\Bv w' (λB=>S B∨S' B) u [s]/\(∀B,S' B->w.heap.size<=B/\B<w'.heap.size)/\Below w.heap.size w w':=by
 have HR:=ah λW (hW:Bl w W)=>eo _ s.e W (hT.below hT.size hW) (hN.below hW) ho hl;have Jo:=ah λW (hW:Bl w W)=>eo _ s.f W (hT.below hT.size hW) (Jm.below hW) Jt Js;obtain⟨Y,U,rfl,-⟩:=Jm;obtain⟨ae,ce,rfl,-⟩:=hN;obtain⟨W0,Jb⟩:=q_ (w.alloc (.cells #[V s.kind,sV s.name,.slice ae s.e.length ce,.slice Y s.f.length U,V s.thn,V s.els] 132));have Jd:Bl w W0:=by rw[Jb];exact r_.alloc n_ _
 have Jf:w.heap.size<W0.heap.size:=by rw[Jb];simp
 have HX:Hid (∀W,Bl W0 W->W.cell? ⟨w.heap.size,0,none⟩=some (V s.kind)/\W.cell? ⟨w.heap.size,1,none⟩=some (sV s.name)/\W.cell? ⟨w.heap.size,3,none⟩=some (.slice Y s.f.length U)):=λW hW=>by
  rw[hW.cell (p:=⟨w.heap.size,0,none⟩) Jf,hW.cell (p:=⟨w.heap.size,1,none⟩) Jf,hW.cell (p:=⟨w.heap.size,3,none⟩) Jf,Jb];exact⟨i_,i_,i_⟩
 have Jn:=ah Jb;have Jj:Hid (∀(W W':World) (J I:Nat->Prop) x y,Bl W W'->Tv W J x s.e->(∀B,J B->B<W.heap.size)->Tv W' I y s.f->Bv W' (λB=>S B∨(J B∨I B)) (.iface 216 (.agg #[sV s.name,x,y])) [s]):=λW W' J I x y hb h1 Jg h2=>.store s x y hk (h1.keep (λB h=>.inr (.inl h)) (λB hB=>hb.block B (Jg B hB))) (h2.keep (λB h=>.inr (.inr h)) (λB _=>rfl)) h0.1 h0.2;have HK:=ah hk;clear Jb hT hk h0;go_in;go_wp2_with fail;rw[<-Jn.out];refine(HR.out _ Jd).mono ?_;rintro e w1 ⟨u,J,rfl,ht,Jg,Jk⟩;obtain⟨x0,x1,x3⟩:=HX.out w1 Jk;rw[HK.out]at x0;obtain⟨t,y,rfl⟩:=ht.isI;have Jc:=Jd.trans (Jk.mono Jd.size);have Jr:Bl w w1.drew:=Jc.drew;have Jl:w.heap.size<w1.drew.heap.size:=b_ x0;have d1:w1.drew.cell? ⟨w.heap.size,1,none⟩=some (sV s.name):=x1;have d3:w1.drew.cell? ⟨w.heap.size,3,none⟩=some (.slice Y s.f.length U):=x3;have Je:Hid (Tv w1 J (.iface t y) s.e/\(∀B,J B->W0.heap.size<=B/\B<w1.heap.size)):=⟨ht,Jg⟩;have HP:Hid (Calls prog 141 #[.slice Y s.f.length U,.func (Fn.func 142) #[] #[]] w1.drew λx w'=>∃(Z:TypeId) (tb:Value) (I:Nat->Prop),x=rW (.iface Z tb)/\(Tv w' I (.iface Z tb) s.f/\(∀B,I B->w1.heap.size<=B/\B<w'.heap.size))/\Bl w1.drew w'):=(Jo.out _ Jr).mono (by
  rintro x w' ⟨u,I,rfl,h1,h2,h3⟩;obtain⟨Z,tb,rfl⟩:=h1.isI;exact⟨Z,tb,I,rfl,⟨h1,h2⟩,h3⟩)
 go_wp2_with fail;go_region_held3 (λW=>W.cell? ⟨w.heap.size,1,none⟩=some (sV s.name)/\W.cell? ⟨w.heap.size,3,none⟩=some (.slice Y s.f.length U)) (go_simp)
  (first
  | ((with_reducible refine Calls.mono HP.out ?_);rintro e w3 ⟨Z,tb,I,rfl,Jh,Ji⟩;have q1:w3.cell? ⟨w.heap.size,1,none⟩=some (.string s.name):=(Ji.cell (p:=⟨w.heap.size,1,none⟩) Jl).trans d1;have q3:w3.cell? ⟨w.heap.size,3,none⟩=some (.slice Y s.f.length U):=(Ji.cell (p:=⟨w.heap.size,3,none⟩) Jl).trans d3))
 have Ja:Bl w1 w3:=(r_.drew).trans Ji;have HU:=ah (Jj.out w1 w3 J I _ _ Ja Je.out.1 (λB hB=>(Je.out.2 B hB).2) Jh.1);have Jq:Hid (∀B,(J B∨I B)->w.heap.size<=B/\B<w3.heap.size):=λB hB=>by
  have Ju:=Ja.size;rcases hB with hB|hB
  ·have:=Je.out.2 B hB;have:=Jd.size;omega
  ·have:=Jh.2 B hB;have:=Jc.size;omega
 have Jp:=Jc.trans (Ja.mono Jc.size);clear Jj Je Jh HP;go_wp2;go_ret;exact⟨_,_,rfl,HU,Jq,Jp⟩
theorem Ad(s:St)(I:s.kind=1∨s.kind=2)(ve vf va vb:Value)(S:Nat->Prop)(w:World)(hT:dq w)(hN:aw w ve s.e)(hF:∃a n c,vf=.slice a n c)(ho:aP s.e=true)(hl:s.e.length<=2000)(hS:∀B,S B->B<w.heap.size)(h0:s.thn=0/\s.els=0):
    Calls prog 109 #[.agg #[V s.kind,sV s.name,ve,vf,V s.thn,V s.els],va,vb] w λe w'=>∃(u:Value) (S':Nat->Prop),e=rW u/\Bv w' (λB=>S B∨S' B) u ([s])/\(∀B,S' B->w.heap.size<=B/\B<w'.heap.size)/\Below w.heap.size w w':=by
  have Jj:(∃Z:BitVec 1,s.kind=1)∨(∃Z:BitVec 2,s.kind=2):=(Or.imp (λh=>⟨0,h⟩) (λh=>⟨0,h⟩)) I;clear I;rcases Jj with⟨Z,I⟩|⟨Z,I⟩;all_goals
    have HR:=ah λW (hW:Bl w W)=>eo _ s.e W (hT.below hT.size hW) (hN.below hW) ho hl;obtain⟨af,nf,cf,rfl⟩:=hF;obtain⟨ae,ce,rfl,-⟩:=hN;obtain⟨W0,Jc⟩:=q_ (w.alloc (.cells #[V s.kind,sV s.name,.slice ae s.e.length ce,.slice af nf cf,V s.thn,V s.els] 132));have U:Bl w W0:=by rw[Jc];exact r_.alloc n_ _
    have Jh:w.heap.size<W0.heap.size:=by rw[Jc];simp
    have HX:Hid (∀W,Bl W0 W->W.cell? ⟨w.heap.size,0,none⟩=some (V s.kind)/\W.cell? ⟨w.heap.size,1,none⟩=some (sV s.name)):=λW hW=>by
      rw[hW.cell (p:=⟨w.heap.size,0,none⟩) Jh,hW.cell (p:=⟨w.heap.size,1,none⟩) Jh,Jc];exact⟨i_,i_⟩
    have Ji:=ah Jc;first
    | (have q_:BitVec 1:=Z
       have Jf:∀W (S':Nat->Prop) x,Bl W0 W->Tv W S' x s.e->(∀B,S' B->W0.heap.size<=B/\B<W.heap.size)->Bv W (λB=>S B∨S' B) (.iface 213 (.agg #[sV s.name,x])) ([s]):=λW S' x hb J Y=>by
         have Jk:=U.trans (hb.mono U.size);have Jg:=J.keep (S':=λB=>S B∨S' B) (λB h=>.inr h) (λB _=>rfl);exact .decl s x I Jg h0.1 h0.2
       have Je:=ah Jf;clear q_)
    | (have Jf:∀W (S':Nat->Prop) x,Bl W0 W->Tv W S' x s.e->(∀B,S' B->W0.heap.size<=B/\B<W.heap.size)->Bv W (λB=>S B∨S' B) (.iface 214 (.agg #[.string s.name,x])) ([s]):=λW S' x hb J Y=>by
         have Jk:=U.trans (hb.mono U.size);have Jg:=J.keep (S':=λB=>S B∨S' B) (λB h=>.inr h) (λB _=>rfl);exact .set s x I Jg h0.1 h0.2
       have Je:=ah (Jf))
    skip
    first
    | (have q_:BitVec 1:=Z
       have HK:=ah I;clear q_)
    | (have HK:Hid (s.kind=2):=I)
    clear Jc Jf hT I h0;go_in;go_wp2_with fail;rw[<-Ji.out];refine(HR.out _ U).mono ?_;rintro e w1 ⟨u,S',rfl,J,Y,Jd⟩;first
    | (have q_:BitVec 1:=Z
       have HU:=ah (Je.out w1 S' u Jd J Y);clear q_)
    | (have HU:Hid (Bv w1 (λB=>S B∨S' B) (.iface 214 (.agg #[.string s.name,u])) ([s])):=Je.out w1 S' u Jd J Y)
    obtain⟨x0,x1⟩:=HX.out w1 Jd;rw[HK.out]at x0;obtain⟨t,y,rfl⟩:=J.isI;have Jl:=U.trans (Jd.mono U.size);have Jm:Hid (∀B,S' B->w.heap.size<=B/\B<w1.heap.size):=λB hB=>⟨t_ U.size (Y B hB).1,(Y B hB).2⟩;clear HX Je HR J Y Jd Ji;go_wp2;go_ret;exact⟨_,S',rfl,HU,Jm,Jl⟩
theorem pN(s:St)(I:s.kind=6∨s.kind=7∨s.kind=8)(ve vf va vb:Value)(S:Nat->Prop)(w:World)(hT:dq w)(hN:aw w ve s.e)(hF:∃a n c,vf=.slice a n c)(ho:aP s.e=true)(hl:s.e.length<=2000)(hS:∀B,S B->B<w.heap.size)(h0:s.thn=0/\s.els=0):
    Calls prog 109 #[.agg #[V s.kind,sV s.name,ve,vf,V s.thn,V s.els],va,vb] w λe w'=>∃(u:Value) (S':Nat->Prop),e=rW u/\Bv w' (λB=>S B∨S' B) u ([s])/\(∀B,S' B->w.heap.size<=B/\B<w'.heap.size)/\Below w.heap.size w w':=by
  have Jk:(∃U:BitVec 1,s.kind=6)∨(∃U:BitVec 2,s.kind=7)∨(∃U:BitVec 3,s.kind=8):=(Or.imp (λh=>⟨0,h⟩) (Or.imp (λh=>⟨0,h⟩) (λh=>⟨0,h⟩))) I;clear I;rcases Jk with⟨U,I⟩|⟨U,I⟩|⟨U,I⟩;all_goals
    have HR:=ah λW (hW:Bl w W)=>eo _ s.e W (hT.below hT.size hW) (hN.below hW) ho hl;obtain⟨af,nf,cf,rfl⟩:=hF;obtain⟨ae,ce,rfl,-⟩:=hN;obtain⟨W0,Jf⟩:=q_ (w.alloc (.cells #[V s.kind,sV s.name,.slice ae s.e.length ce,.slice af nf cf,V s.thn,V s.els] 132));have Y:Bl w W0:=by rw[Jf];exact r_.alloc n_ _
    have Jh:w.heap.size<W0.heap.size:=by rw[Jf];simp
    have HX:Hid (∀W,Bl W0 W->W.cell? ⟨w.heap.size,0,none⟩=some (V s.kind)/\W.cell? ⟨w.heap.size,1,none⟩=some (sV s.name)):=λW hW=>by
      rw[hW.cell (p:=⟨w.heap.size,0,none⟩) Jh,hW.cell (p:=⟨w.heap.size,1,none⟩) Jh,Jf];exact⟨i_,i_⟩
    have Jj:=ah Jf;first
    | (have q_:BitVec 1:=U
       have Jd:∀W (S':Nat->Prop) x,Bl W0 W->Tv W S' x s.e->(∀B,S' B->W0.heap.size<=B/\B<W.heap.size)->Bv W (λB=>S B∨S' B) (.iface 185 (.agg #[x])) ([s]):=λW S' x hb J Z=>by
         have Ji:=Y.trans (hb.mono Y.size);have Jg:=J.keep (S':=λB=>S B∨S' B) (λB h=>.inr h) (λB _=>rfl);exact .ret s x I Jg h0.1 h0.2
       have Jc:=ah Jd;clear q_)
    | (have q_:BitVec 2:=U
       have Jd:∀W (S':Nat->Prop) x,Bl W0 W->Tv W S' x s.e->(∀B,S' B->W0.heap.size<=B/\B<W.heap.size)->Bv W (λB=>S B∨S' B) (.iface 221 (.agg #[x])) ([s]):=λW S' x hb J Z=>by
         have Ji:=Y.trans (hb.mono Y.size);have Jg:=J.keep (S':=λB=>S B∨S' B) (λB h=>.inr h) (λB _=>rfl);exact .out s x I Jg h0.1 h0.2
       have Jc:=ah Jd;clear q_)
    | (have Jd:∀W (S':Nat->Prop) x,Bl W0 W->Tv W S' x s.e->(∀B,S' B->W0.heap.size<=B/\B<W.heap.size)->Bv W (λB=>S B∨S' B) (.iface 222 (.agg #[x])) ([s]):=λW S' x hb J Z=>by
         have Ji:=Y.trans (hb.mono Y.size);have Jg:=J.keep (S':=λB=>S B∨S' B) (λB h=>.inr h) (λB _=>rfl);exact .call s x I Jg h0.1 h0.2
       have Jc:=ah (Jd))
    skip
    first
    | (have q_:BitVec 1:=U
       have HK:=ah I;clear q_)
    | (have q_:BitVec 2:=U
       have HK:=ah I;clear q_)
    | (have HK:Hid (s.kind=8):=I)
    clear Jf Jd hT I h0;go_in;go_wp2_with fail;rw[<-Jj.out];refine(HR.out _ Y).mono ?_;rintro e w1 ⟨u,S',rfl,J,Z,Je⟩;first
    | (have q_:BitVec 1:=U
       have HU:=ah (Jc.out w1 S' u Je J Z);clear q_)
    | (have q_:BitVec 2:=U
       have HU:=ah (Jc.out w1 S' u Je J Z);clear q_)
    | (have HU:Hid (Bv w1 (λB=>S B∨S' B) (.iface 222 (.agg #[u])) ([s])):=Jc.out w1 S' u Je J Z)
    obtain⟨x0,x1⟩:=HX.out w1 Je;rw[HK.out]at x0;obtain⟨t,y,rfl⟩:=J.isI;have Jl:=Y.trans (Je.mono Y.size);have Jm:Hid (∀B,S' B->w.heap.size<=B/\B<w1.heap.size):=λB hB=>⟨t_ Y.size (Z B hB).1,(Z B hB).2⟩;clear HX Jc HR J Z Je Jj;go_wp2;go_ret;exact⟨_,S',rfl,HU,Jm,Jl⟩
def kt{F:Nat->List St}{A:Nat}(h:(0:Int)=(cG F A).length):cG F A=[]:=GG o_
def Ae(s:St)(hb:stmtB s=true)(hl:s.e.length<=2000)(Jh:s.f.length<=2000)(ve vf Z Y:BY)(S:D6)(w:AT)(hT:dq w)(hN:aw w ve s.e)(Je:aw w vf s.f)(hS:∀B,S B->B<w.heap.size)(A B:Nat)(vs us:Nat->BY)(F H:Nat->List St)(Jc:fY w S Z A vs)(Jd:∀i,i<A->Bv w S (vs i) (F i))(Ji:fY w S Y B us)(Jg:∀i,i<B->Bv w S (us i) (H i))(h0:s.thn=(cG F A).length/\s.els=(cG H B).length):
  Calls prog 109 #[.agg #[V s.kind,sV s.name,ve,vf,V s.thn,V s.els],Z,Y] w λe w'=>∃(u:BY) (S':D6),e=rW u/\Bv w' (λB=>S B∨S' B) u (s::cG F A++cG H B)/\(∀B,S' B->w.heap.size<=B/\B<w'.heap.size)/\Bl w w':=by
 have hF:∃a n c,vf=.slice a n c:=by
  obtain⟨a,c,rfl,_⟩:=Je;exact⟨a,_,c,rfl⟩
 unfold stmtB at hb;simp only[GE,Bool.or_eq_true,GF,beq_iff_eq]at hb;obtain⟨⟨⟨⟨⟨⟨hk,-⟩,ho⟩,Jb⟩,-⟩,ht⟩,he⟩:=hb;have Jf:s.kind=1∨s.kind=2∨s.kind=3∨s.kind=4∨s.kind=5∨s.kind=6∨s.kind=7∨s.kind=8:=o_;have Ja:¬(s.kind=4∨s.kind=5)->s.thn=0/\s.els=0/\s::cG F A++cG H B=[s]:=λhn=>by
  have J:s.thn=0:=by rcases ht with h|h;exact absurd h hn;exact h
  have I:s.els=0:=by rcases he with h|h;exact absurd (.inl h) hn;exact h
  refine⟨J,I,?_⟩;rw[kt (F:=F) (A:=A) (by rw[<-h0.1,J]),kt (F:=H) (A:=B) (by rw[<-h0.2,I])];rfl
 rcases Jf with h|h|h|h|h|h|h|h
 ·obtain⟨J,I,U⟩:=Ja o_;rw[U];exact Ad s (.inl h) ve vf Z Y S w hT hN hF ho hl hS ⟨J,I⟩
 ·obtain⟨J,I,U⟩:=Ja o_;rw[U];exact Ad s (.inr h) ve vf Z Y S w hT hN hF ho hl hS ⟨J,I⟩
 ·obtain⟨J,I,U⟩:=Ja o_;rw[U];rw[if_pos h]at Jb;exact ET s h ve vf Z Y S w hT hN Je ho hl Jb Jh ⟨J,I⟩
 ·exact EP s h ve vf Z Y S w hT hN hF ho hl hS A B vs us F H Jc Jd Ji Jg h0
 ·have I:s.els=0:=by
   rcases he with h'|h'
   ·omega
   ·exact h'
  have U:s::cG F A++cG H B=s::cG F A:=by rw[kt (F:=H) (A:=B) (by rw[<-h0.2,I]),append_nil]
  rw[U];exact EQ s h ve vf Z Y S w hT hN hF ho hl hS A vs F Jc Jd ⟨h0.1,I⟩
 ·obtain⟨J,I,U⟩:=Ja o_;rw[U];exact pN s (.inl h) ve vf Z Y S w hT hN hF ho hl hS ⟨J,I⟩
 ·obtain⟨J,I,U⟩:=Ja o_;rw[U];exact pN s (.inr (.inl h)) ve vf Z Y S w hT hN hF ho hl hS ⟨J,I⟩
 ·obtain⟨J,I,U⟩:=Ja o_;rw[U];exact pN s (.inr (.inr h)) ve vf Z Y S w hT hN hF ho hl hS ⟨J,I⟩
def Af:Prop:=∀(ss:List St) (v:BY) (w:AT),dq w->aW w v ss->cM ss=true->(∀s∈ss,stmtB s=true/\s.e.length<=2000/\s.f.length<=2000)->ss.length<=1000->Calls prog 69 #[v] w λe w'=>∃(u:BY) (S':D6),e=rW u/\Bk w' S' u ss/\(∀B,S' B->w.heap.size<=B/\B<w'.heap.size)/\Bl w w'
section
variable{w wr:AT}{ss:List St}{v:BY}{L:List (BY×List St)}{S:D6}
def EU:BY->Nat
 | .slice _ n _=>n
 | _=>0
structure Cx (w wr:AT) (ss rest:List St) (v:BY) (L:List (BY×List St)) (S:D6):Prop where
 row:wr.ownsRow w.heap.size 168 1 v L.length (L.map (·.1))
 bv:∀q∈L,Bv wr S q.1 q.2
 join:ss=(L.map (·.2)).flatten++rest
 rng:∀B,S B->w.heap.size<=B/\B<wr.heap.size/\some B≠v.ownBlock
 bel:Bl w wr
theorem jl(L:List (BY×List St))(d:BY×List St):∀k,k<=L.length->cG (λi=>(L.getD i d).2) k=((L.take k).map (·.2)).flatten
 | 0,_=>rfl
 | k+1,h=>by
  have hk:k<L.length:=o_;simp only[cG];rw[jl L d k o_,take_succ_eq_append_getElem hk];have eg:L.getD k d=L[k]:=by rw[getD_eq_getElem?_getD,GH hk];rfl
  simp only[map_append,map_cons,map_nil,flatten_append,flatten_cons,flatten_nil,append_nil,eg]
def Cx.bk(h:Cx w wr ss [] v L S):∃S':D6,Bk wr S' v ss/\∀B,S' B->w.heap.size<=B/\B<wr.heap.size:=by
 have Jb:=λk hk=>ownsRow.lt h.row k hk;refine⟨λB=>S B∨v.ownBlock=some B,⟨L.length,λi=>(L.getD i (.nilFunc,[])).1,λi=>(L.getD i (.nilFunc,[])).2,?_,λi hi=>?_,?_⟩,λB hB=>?_⟩
 ·have h0:=h.row;rcases h.row.2 with⟨I,hn⟩|⟨g,Je,Jf,I,Jg,hg,Z,Y,Jh,Ja⟩
  ·refine⟨none,0,by rw[I,hn],o_,o_,λhp=>by omega⟩
  ·refine⟨_,Je,I,Z,by unfold maxLen at Y;omega,λhp=>⟨g,rfl,.inr (by rw[I];rfl),λi hi=>?_⟩⟩;have U:(L.map (·.1))[i]? =some ((L.getD i (.nilFunc,[])).1):=by
    simp[getD_eq_getElem?_getD,GH hi]
   have:=ownsRow.cells h0 (g:=g) (by rw[I];rfl) i _ U
   rw[em]at this;simpa using this
 ·have J:L.getD i (.nilFunc,[])∈L:=by
   rw[getD_eq_getElem?_getD,GH hi];exact g_ hi
  exact(h.bv _ J).keep (λB hB=>.inl hB) (λB _=>rfl)
 ·rw[jl L _ L.length n_,take_length];have:=h.join
  simpa using this
 ·rcases hB with hB|hB
  ·exact⟨(h.rng B hB).1,(h.rng B hB).2.1⟩
  ·exact Jb B hB
def Cx.next{I w':AT}{Jc r':List St}{v' u:BY}{J:D6}(h:Cx w wr ss (Jc++r') v L S)(U:Bl wr I)(hu:Bv I J u Jc)(Ja:∀B,J B->wr.heap.size<=B/\B<I.heap.size)
  (Y:I.grownBy w' v.ownBlock) (Jb:w'.ownsRow w.heap.size 168 1 v' (L.map (·.1)++[u]).length (L.map (·.1)++[u])) (hf:∀k,v'.ownBlock=some k->v.ownBlock=some k∨I.heap.size<=k):Cx w w' ss r' v' (L++[(u,Jc)]) (λB=>S B∨J B):=by
 have Jd:=λk hk=>ownsRow.lt h.row k hk;have k1:∀B,S B->w'.heap[B]? =wr.heap[B]? := λB hB=>by
  obtain⟨Z,h2,h3⟩:=h.rng B hB;rw[Y.block B (l_ h2 U.size) h3,U.block B h2]
 have hn:∀B,J B->some B≠v.ownBlock:=λB hB e=>by
  have:=Jd B e.symm
  have:=Ja B hB
  omega
 have k2:∀B,J B->w'.heap[B]? =I.heap[B]? := λB hB=>Y.block B (Ja B hB).2 (hn B hB);refine⟨Fc Jb,λq hq=>?_,?_,λB hB=>?_,?_⟩
 ·rcases GJ.1 hq with hq|hq
  ·exact(h.bv q hq).keep (λB hB=>.inl hB) k1
  ·simp only[mem_cons,not_mem_nil,or_false]at hq;subst hq;exact hu.keep (λB hB=>.inr hB) k2
 ·rw[h.join];simp
 ·have Jf:=h.bel.size;rcases hB with hB|hB
  ·obtain⟨Z,h2,h3⟩:=h.rng B hB;refine⟨Z,l_ (l_ h2 U.size) Y.size,λe=>?_⟩;rcases hf B e.symm with h4|h4
   ·exact h3 h4.symm
   ·have:=U.size;omega
  ·obtain⟨Z,h2⟩:=Ja B hB;refine⟨o_,l_ h2 Y.size,λe=>?_⟩;rcases hf B e.symm with h4|h4
   ·exact hn B hB h4.symm
   ·omega
 ·have Je:Bl w I:=h.bel.trans (U.mono h.bel.size);exact Je.grown Y Je.size (λk hk=>(Jd k hk).1)
end
theorem Ag(L:List (BY×List St))(h:∀q∈L,0<q.2.length):L.length<=(L.map (·.2)).flatten.length:=by
 induction L with
 | nil=>simp
 | cons q r ih=>
  have I:=h q i_;have h2:=ih (λx hx=>h x (by simp[hx]));simp only[map_cons,flatten_cons,l_a,l_c];omega
def BJ:(prog.info? 168).map (λi=>(i.zero,i.size,i.bytes))=some (some .nilIface,1,16):=by kernel_rfl
def own_below{B t z n:Nat}{w w':AT}{v:BY}{U:List BY}(h:w.ownsRow B t z v n U)(hb:Bl w w'):w'.ownsRow B t z v n U:=by
 obtain⟨Z,I⟩:=h;refine⟨Z,?_⟩;rcases I with I|⟨g,Jb,Ja,rfl,g3,J,Y⟩
 ·exact .inl I
 ·refine .inr ⟨g,Jb,Ja,rfl,g3,?_,Y⟩;rw[hb.block g (Array.getElem?_eq_some_iff.1 J).1];exact J
theorem BK(W:World)(J:TypeId)(I:Value):Src (W.alloc (.cells #[.iface J I] 168)) (rV W.heap.size 1 1) [.iface J I]:=by
 refine⟨_,_,rfl,(λh=>by cases h),λad had j u hj=>?_⟩;simp only[Option.some.injEq]at had;subst had;have U:j=0:=by
  have:=(List.getElem?_eq_some_iff.mp hj).1
  simp at this;omega
 subst U;simp at hj;subst hj;simp[Addr.add]
theorem jQ(ss:List St)(v:Value)(w:World)(hT:dq w)(hS:aW w v ss)(Xn:cM ss=true)(Zr:∀s∈ss,stmtB s=true/\s.e.length<=2000/\s.f.length<=2000)(Zs:ss.length<=1000)
  (IH:∀(tt:List St) (u:Value) (W:World),tt.length<ss.length->Below w.heap.size w W->aW w u tt->cM tt=true->(∀s∈tt,s∈ss)->Calls prog 69 #[u] W λe w'=>∃(x:Value) (S':Nat->Prop),e=rW x/\Bk w' S' x tt/\(∀B,S' B->W.heap.size<=B/\B<w'.heap.size)/\Below W.heap.size W w'):
  Calls prog 69 #[v] w λe w'=>∃(u:Value) (S':Nat->Prop),e=rW u/\Bk w' S' u ss/\(∀B,S' B->w.heap.size<=B/\B<w'.heap.size)/\Below w.heap.size w w':=by
 obtain⟨HT,HS,Yg,Jy,Xr⟩:=h5 hT hS Zr Xn IH;obtain⟨av,cv,rfl,-⟩:=hS;go_in;go_wp2;go_loopw[0,3] (λv0 v3 wr=>∃(Jb:List St) (L:List (Value×List St)) (S:Nat->Prop),aW w v0 Jb/\cM Jb=true/\Jb.length<=ss.length/\(∀s∈Jb,s∈ss)/\Cx w wr ss Jb v3 L S) (λv0 _ _=>EU v0)
 case atStart=>exact⟨ss,[],λ_=>False,HS,Jy,n_,λs h=>h,⟨World.ownsRow_nil _ _ _ _,λq hq=>by simp at hq,i_,λB hB=>hB.elim,r_⟩⟩
 case round=>
  clear HS Jy;obtain⟨Jb,L,S,Xw,Yd,Zz,Jx,Jk⟩:=hrel;obtain⟨Jh,Jf⟩:=h2 Jk Jx;obtain⟨Jv,Jn,Jo,rfl⟩:∃a n c,u3=.slice a n c:=by
   rcases Jk.row.2 with⟨rfl,_⟩|⟨g,Jm,Zu,rfl,_⟩
   ·exact⟨_,_,_,rfl⟩
   ·exact⟨_,_,_,rfl⟩
  cases Jb with
  | nil=>
   obtain⟨a2,c2,rfl,-⟩:=Xw;simp only[l_n];go_wp2_with fail;obtain⟨S',Zm,Xl⟩:=Jh.out.bk;exact bodyPost_ret (v:=.slice Jv Jn Jo) (by simp[results,results69,go_sem]) rfl ⟨_,S',rfl,Zm,Xl,Jh.out.bel⟩
  | cons s r=>
   rw[fitB_cons,Bool.and_eq_true,Bool.and_eq_true,Bool.and_eq_true,decide_eq_true_iff]at Yd;obtain⟨⟨p1,p2,p3,p4⟩,Yb,Xx,Xv⟩:=Yd;obtain⟨a2,Jm,rfl,Zp,Yz,hc⟩:=Xw;obtain⟨b0,off,rfl,hs⟩:=hc i_;have Jr:aW w (.slice (some ⟨b0,off,none⟩) (s::r).length Jm) (s::r):=⟨_,_,rfl,Zp,Yz,λ_=>⟨b0,off,rfl,hs⟩⟩;have Jg:aW w (.slice (if Jm=1 then some ⟨b0,off,none⟩else some ⟨b0,off+6,none⟩) r.length (Jm-1)) r:=by
    have:=Jr.cut 1 (s::r).length i_ n_
    simpa[Addr.add]using this
   obtain⟨ve,vf,⟨g0,g1,g2,g3,g4,g5⟩,⟨c0,c1,c2,c3,c4,c5⟩,he,hf⟩:=(hs.below Jk.bel).up 0 i_;simp only[Nat.zero_mul,Nat.add_zero,List.getElem_cons_zero]at c0 c1 c2 c3 c4 c5 g0 g1 g2 g3 g4 g5 he hf;simp only[l_c]at*;have HR:=ah Jg;have h1:(1:Int)<=(r.length:Int)+1:=o_;obtain⟨Zf,Y_,Yo,Zk,Zl⟩:=h5 he hf Yb Xx Xv;obtain⟨a3,k3,rfl,-⟩:=he;obtain⟨a4,k4,rfl,-⟩:=hf;clear hs hc Jr Jg Yb Xx Xv Jk Jx;go_wp2_with fail;go_region;generalize (if Jm=1 then some ({block:=b0,off:=off,spot:=none}:Addr)else some {block:=b0,off:=off+6,spot:=none})=a1 at HR⊢;generalize Xb:Jm-1=k1 at HR⊢;have Zi:r.length<=k1:=o_;have Ze:k1<=9223372036854775807:=o_;obtain⟨tn,Jp⟩:=Int.eq_ofNat_of_zero_le p1;obtain⟨I,J_⟩:=Int.eq_ofNat_of_zero_le p3;have Zv:IntKind.i64.wrap ((tn:Int)+(I:Int))=(tn:Int)+(I:Int):=by simp[IntKind.wrap,IntKind.bits,IntKind.signed];omega
   go_wp2_with fail;obtain⟨X,hX⟩:=q_ ((wr.alloc (.cells #[V s.kind,sV s.name,.slice a3 s.e.length k3,.slice a4 s.f.length k4,V (tn:Int),V (I:Int)] 132)).drew);rw[<-hX];have Js:Bl wr X.drew:=by rw[hX];exact(au _ _).drew.drew
   have Zy:X.drew.heap.size=wr.heap.size+1:=by rw[hX];simp
   have Xj:=Jh.out.bel;have Jd:Bl w X.drew:=Xj.trans (Js.mono Xj.size);have HK:Hid (∀W,Bl X.drew W->W.cell? ⟨wr.heap.size,0,none⟩=some (V s.kind)/\W.cell? ⟨wr.heap.size,1,none⟩=some (sV s.name)/\W.cell? ⟨wr.heap.size,2,none⟩=some (.slice a3 s.e.length k3)/\W.cell? ⟨wr.heap.size,3,none⟩=some (.slice a4 s.f.length k4)/\W.cell? ⟨wr.heap.size,4,none⟩=some (V (tn:Int))/\W.cell? ⟨wr.heap.size,5,none⟩=some (V (I:Int))):=λW hW=>by
    refine⟨?_,?_,?_,?_,?_,?_⟩ <;> (rw[hW.cell (by simp only;omega)];show X.cell? _=_;rw[hX];show World.cell? (wr.alloc _) _=_;simp)
   obtain⟨Z,x1,x2,x3,x4,x5⟩:=HK.out X.drew r_;have Vd:tn+I<=r.length:=o_;obtain⟨a6,k6,Zx,Yj⟩:∃a6 k6,(∀w:World,(Instr.slice 95 (.slice a1 r.length k1) (some (V (tn:Int))) (some (V ((tn:Int)+(I:Int)))) none).run prog w=.ok (.slice a6 I k6) w)/\aW w (.slice a6 I k6) ((r.take (tn+I)).drop tn):=by
    have h:=fU a1 r.length k1 tn (tn+I) o_ o_ o_ (tn:Int) ((tn:Int)+(I:Int)) o_ o_;have h':=HR.out.cut tn (tn+I) o_ o_;rw[show tn+I-tn=I by omega]at h h';exact⟨_,_,h,h'⟩
   have Yr:aW w (.slice a1 tn k1) (r.take tn):=HR.out.head tn o_;have Z_:∀w:World,(Instr.slice 95 (.slice a1 r.length k1) none (some (V (tn:Int))) none).run prog w=.ok (.slice a1 tn k1) w:=λw=>by
    have U:prog.elem 95=132:=k_;have Xe:(sizeOf 132).run prog w=.ok 6 w:=k_;rw[run_slice_h w 95 a1 r.length k1 (by rw[U];exact underlying95) .i64 _ o_ o_,U,Xe];simp only[Result.andThen,sliced,Int.toNat_natCast,Nat.sub_zero,Nat.zero_mul,Int.toNat_zero];cases a1 <;> simp[Addr.add]
   have Yl:=ah λW (hW:Bl w W)=>Xr.out (r.take tn) _ W (by simp;omega) hW Yr (by have:=Yo.out;rw[Jp]at this;exact this) (λz U=>Jf.out z (by simp[List.mem_of_mem_take U]));have Yy:=ah λW (hW:Bl w W)=>Xr.out _ _ W (by simp;omega) hW Yj (by have:=Zk.out;rw[Jp,J_]at this;exact this) (λz U=>Jf.out z (by simp[List.mem_of_mem_take (List.mem_of_mem_drop U)]));have Zq:Hid (∀(y1 y2:Value) (S1 S2:Nat->Prop) (wa wb:World),Bk wa S1 y1 (r.take tn)->(∀B,S1 B->X.drew.heap.size<=B/\B<wa.heap.size)->Bl X.drew wa->Bk wb S2 y2 ((r.take (tn+I)).drop tn)->(∀B,S2 B->wa.heap.size<=B/\B<wb.heap.size)->Bl wa wb->Calls prog 109 #[.agg #[V s.kind,sV s.name,.slice a3 s.e.length k3,.slice a4 s.f.length k4,V (tn:Int),V (I:Int)],y1,y2] wb λe w'=>∃(Y:TypeId) (Z:Value) (S3:Nat->Prop),e=rW (.iface Y Z)/\Bv w' S3 (.iface Y Z) (s::r.take (tn+I))/\(∀B,S3 B->X.drew.heap.size<=B/\B<w'.heap.size)/\Bl wb w'):=λy1 y2 S1 S2 wa wb Xb Jt J Xg Xa Je=>by
    have Jw:Bl X.drew wb:=J.trans (Je.mono J.size);have Xd:Bl w wb:=Jd.trans (Jw.mono Jd.size);have Jq:Bl wr wb:=Js.trans (Jw.mono Js.size);obtain⟨A,vs,F,q1,q2,q3⟩:=Xb.bel (λB hB=>(Jt B hB).2) Je;obtain⟨D,us,H,q4,q5,q6⟩:=Xg;obtain⟨o1,o2,o3⟩:=Yg.out s (Jf.out s i_);have Vb:=J.size;have Zt:=Je.size;have e1:(r.take tn).length=tn:=by simp;omega
    have e2:((r.take (tn+I)).drop tn).length=I:=by simp;omega
    have h:=Ae s o1 o2 o3 (.slice a3 s.e.length k3) (.slice a4 s.f.length k4) y1 y2 (λB=>S1 B∨S2 B) wb (HT.out.below HT.out.size Xd) (Zf.out.below Jq) (Y_.out.below Jq) (λB hB=>by rcases hB with hB|hB;have:=Jt B hB;omega;exact(Xa B hB).2) A D vs us F H (q1.keep (λB hB=>.inl hB) (λB _=>rfl)) (λi hi=>(q2 i hi).keep (λB hB=>.inl hB) (λB _=>rfl)) (q4.keep (λB hB=>.inr hB) (λB _=>rfl)) (λi hi=>(q5 i hi).keep (λB hB=>.inr hB) (λB _=>rfl)) ⟨by rw[<-q3,e1];exact Jp,by rw[<-q6,e2];exact J_⟩;rw[Jp,J_]at h;refine h.mono ?_;rintro e w' ⟨u,S',rfl,Jl,Xl,Yc⟩;obtain⟨Y,z0,rfl⟩:=Jl.isI;rw[<-q3,<-q6]at Jl;have el:s::r.take tn++(r.take (tn+I)).drop tn=s::r.take (tn+I):=by
     rw[List.cons_append];congr 1;have e3:r.take tn=(r.take (tn+I)).take tn:=by rw[List.take_take];congr 1;omega
     rw[e3,List.take_append_drop]
    rw[el]at Jl;refine⟨Y,z0,_,rfl,Jl,λB hB=>?_,Yc⟩;have Va:=Yc.size;rcases hB with(hB|hB)|hB
    ·have:=Jt B hB;omega
    ·have:=Xa B hB;omega
    ·have:=Xl B hB;omega
   clear hX;obtain⟨iS,Yn,Xm,Xf,Xc⟩:=info_parts BJ;have Xh:Hid (∀W,Bl wr W->W.ownsRow w.heap.size 168 1 (.slice Jv Jn Jo) (L.map (·.1)).length (L.map (·.1))):=λW hW=>by rw[List.length_map];exact own_below Jh.out.row hW
   have Xi:=ah λ(W:World) (Y:TypeId) (Z:Value)=>BK W Y Z;have Vc:(L.map (·.1)).length<=1000000:=by
    rw[List.length_map];have h1:=Ag L (λq hq=>(Jh.out.bv q hq).pos);have h2:=congrArg List.length Jh.out.join;rw[l_a]at h2;omega
   have Jj:some wr.heap.size≠(Value.slice Jv Jn Jo).ownBlock:=λe=>by have:=(World.ownsRow.lt Jh.out.row _ e.symm).2;omega
   obtain⟨a7,k7,Zw,Zg⟩:∃a7 k7,(∀w:World,(Instr.slice 95 (.slice a1 r.length k1) (some (V ((tn:Int)+(I:Int)))) none none).run prog w=.ok (.slice a7 (r.length-(tn+I)) k7) w)/\aW w (.slice a7 (r.length-(tn+I)) k7) (r.drop (tn+I)):=by
    have h':=HR.out.cut (tn+I) r.length o_ n_;rw[List.take_length]at h';refine⟨_,_,λw=>?_,h'⟩;have U:prog.elem 95=132:=k_;have Xe:(sizeOf 132).run prog w=.ok 6 w:=k_;have e:((tn:Int)+(I:Int))=((tn+I:Nat):Int):=o_;rw[e,run_slice_l w 95 a1 r.length k1 (by rw[U];exact underlying95) .i64 _ o_ o_,U,Xe];simp only[Result.andThen,sliced,Int.toNat_natCast]
   go_region_held_law (λW=>W.cell? ⟨wr.heap.size,0,none⟩=some (V s.kind)/\W.cell? ⟨wr.heap.size,1,none⟩=some (sV s.name)/\W.cell? ⟨wr.heap.size,2,none⟩=some (.slice a3 s.e.length k3)/\W.cell? ⟨wr.heap.size,3,none⟩=some (.slice a4 s.f.length k4)/\W.cell? ⟨wr.heap.size,4,none⟩=some (V (tn:Int))/\W.cell? ⟨wr.heap.size,5,none⟩=some (V (I:Int)))
    (first|go_keep|(go_split_ands;exact⟨Ye,Zd,Zb,Yf,Ym,Yp⟩)|(go_split_ands;exact⟨Zc,Zo,Zh,Yt,Yw,Zj⟩)|(go_split_ands;exact⟨Ya,Xz,Xy,Xs,Xq,X_⟩)|(go_split_ands;exact⟨Ys,Yx,Yq,Yu,Yi,Za⟩))
    (first
    | (with_reducible refine Calls.mono (Yl.out X.drew Jd) ?_;rintro e wa ⟨y1,S1,rfl,Xb,Jt,J⟩;obtain⟨Ye,Zd,Zb,Yf,Ym,Yp⟩:=HK.out wa J)
    | (with_reducible refine Calls.mono (Yy.out wa (Jd.trans (J.mono Jd.size))) ?_;rintro e wb ⟨y2,S2,rfl,Xg,Xa,Je⟩;obtain⟨Zc,Zo,Zh,Yt,Yw,Zj⟩:=HK.out wb (J.trans (Je.mono J.size)))
    | (with_reducible refine Calls.mono (Zq.out y1 y2 S1 S2 wa wb Xb Jt J Xg Xa Je) ?_;rintro e wc ⟨Y,Z,S3,rfl,Jl,Xo,Xp⟩;have Xt:Bl X.drew wc:=(J.trans (Je.mono J.size)).trans (Xp.mono (J.trans (Je.mono J.size)).size);have Ju:Bl wr wc:=Js.trans (Xt.mono Js.size);have Jc:wr.heap.size<wc.heap.size:=(by have:=Xt.size;omega);obtain⟨Ya,Xz,Xy,Xs,Xq,X_⟩:=HK.out wc ((J.trans (Je.mono J.size)).trans (Xp.mono (J.trans (Je.mono J.size)).size)))
    | (refine nX (P:=prog) (by rfl) _ _ 118 (by rfl) w.heap.size 168 iS _ underlying118 Yn Xm Xf Xc rfl (.slice Jv Jn Jo) (L.map (·.1)) (by rfl) (Xh.out _ (Ju.alloc Ju.size _)) (.slice (some ⟨wc.heap.size,0,none⟩) 1 1) [.iface Y Z] (by rfl) (Xi.out wc Y Z) (λu hu=>by simp only[List.mem_cons,List.not_mem_nil,or_false]at hu;subst hu;rfl) (by simp only[l_c,l_n];omega) (by have:=Ju.size;have:=Xj.size;simp only[World.size_alloc];omega) ?_;intro v' w' Jz Ji Yh;obtain⟨Ys,Yx,Yq,Yu,Yi,Za⟩:w'.cell? ⟨wr.heap.size,0,none⟩=some (.int .i64 s.kind)/\w'.cell? ⟨wr.heap.size,1,none⟩=some (.string s.name)/\w'.cell? ⟨wr.heap.size,2,none⟩=some (.slice a3 s.e.length k3)/\w'.cell? ⟨wr.heap.size,3,none⟩=some (.slice a4 s.f.length k4)/\w'.cell? ⟨wr.heap.size,4,none⟩=some (.int .i64 (tn:Int))/\w'.cell? ⟨wr.heap.size,5,none⟩=some (.int .i64 (I:Int)):=⟨Ji.cell ((World.cell?_alloc_lt wc _ ⟨wr.heap.size,0,none⟩ Jc).trans Ya) Jj,Ji.cell ((World.cell?_alloc_lt wc _ ⟨wr.heap.size,1,none⟩ Jc).trans Xz) Jj,Ji.cell ((World.cell?_alloc_lt wc _ ⟨wr.heap.size,2,none⟩ Jc).trans Xy) Jj,Ji.cell ((World.cell?_alloc_lt wc _ ⟨wr.heap.size,3,none⟩ Jc).trans Xs) Jj,Ji.cell ((World.cell?_alloc_lt wc _ ⟨wr.heap.size,4,none⟩ Jc).trans Xq) Jj,Ji.cell ((World.cell?_alloc_lt wc _ ⟨wr.heap.size,5,none⟩ Jc).trans X_) Jj⟩))
   have Yk:Hid (∀w9,w9=w'->Cx w w9 ss (r.drop (tn+I)) v' (L++[(.iface Y Z,s::r.take (tn+I))]) (λB=>S B∨S3 B)):=λw9 e9=>by
    subst e9;have Jk:Cx w wr ss (s::r.take (tn+I)++r.drop (tn+I)) (.slice Jv Jn Jo) L S:=by
     have:=Jh.out
     rw[List.cons_append,List.take_append_drop];exact this
    have Xu:Bl wc (wc.alloc (.cells #[.iface Y Z] 168)):=au _ _;exact Jk.next (Ju.trans (Xu.mono Ju.size)) (Jl.bel (λB hB=>(Xo B hB).2) Xu) (λB hB=>by have:=Xo B hB;simp only[World.size_alloc];omega) Ji Jz Yh
   have Yv:=Yk.out _ rfl;obtain⟨HN,Zn⟩:=h2 Yv Zg;have Xk:Hid (cM (r.drop (tn+I))=true):=by have:=Zl.out;rw[Jp,J_]at this;exact this
   go_wp2;go_roundw
   case rel=>exact⟨r.drop (tn+I),_,_,Zn,Xk,by simp;omega,λz U=>Jf.out z (by simp[List.mem_of_mem_drop U]),HN⟩
   case measure=>simp[EU];omega
theorem re:Af:=by
 intro ss v w Z Y Ja Jd Jc;have J:∀(n:Nat) (h:List St) (u:BY) (W:AT),h.length<=n->dq W->aW W u h->cM h=true->(∀s∈h,stmtB s=true/\s.e.length<=2000/\s.f.length<=2000)->h.length<=1000->Calls prog 69 #[u] W λe w'=>∃(x:BY) (S':D6),e=rW x/\Bk w' S' x h/\(∀B,S' B->W.heap.size<=B/\B<w'.heap.size)/\Bl W w':=by
  intro n;induction n with
  | zero=>intro h u W U I h2 h3 h4 h5;exact jQ h u W I h2 h3 h4 h5 (λt' _ _ hlt=>by omega)
  | succ n ih=>intro h u W U I h2 h3 h4 h5;exact jQ h u W I h2 h3 h4 h5 (λt' u' W' hlt hb hs hf hsub=>ih t' u' W' o_ (I.below I.size hb) (hs.below hb) hf (λs hs'=>h4 s (hsub s hs')) o_)
 exact J ss.length ss v w n_ Z Y Ja Jd Jc
section
variable{w w':AT}{S:D6}{v:BY}{L:List (BY×List St)}
def dd(L:List (BY×List St)):List St:=(L.map (·.2)).flatten
def tg(q:BY×List St)(L:List (BY×List St)):dd (q::L)=q.2++dd L:=by simp[dd]
def pO(L M:List (BY×List St)):dd (L++M)=dd L++dd M:=by simp[dd]
structure pT (w:AT) (S:D6) (v:BY) (L:List (BY×List St)):Prop where
 args:fY w S v L.length (λi=>(L.getD i (.nilFunc,[])).1)
 bv:∀q∈L,Bv w S q.1 q.2
def pT.keep{S':D6}(h:pT w S v L)(hS:∀B,S B->S' B)(hk:∀B,S B->w'.heap[B]? =w.heap[B]?):pT w' S' v L:=
 ⟨h.args.keep hS hk,λq hq=>(h.bv q hq).keep hS hk⟩
def pT.bel(h:pT w S v L)(hS:∀B,S B->B<w.heap.size)(hb:Bl w w'):pT w' S v L:=h.keep (λ_ h=>h) (λB hB=>hb.block B (hS B hB))
def getD_at{i:Nat}(h:i<L.length):L.getD i (.nilFunc,[])=L[i]:=by
 rw[getD_eq_getElem?_getD,GH h];rfl
def pT.parts(h:pT w S v L):fY w S v L.length (λi=>(L.getD i (.nilFunc,[])).1)/\(∀i,i<L.length->Bv w S (L.getD i (.nilFunc,[])).1 (L.getD i (.nilFunc,[])).2)/\cG (λi=>(L.getD i (.nilFunc,[])).2) L.length=dd L:=by
 refine⟨h.args,λi hi=>?_,?_⟩
 ·rw[getD_at hi];exact h.bv _ (g_ hi)
 ·rw[jl L _ L.length n_,take_length];rfl
theorem gH(vs:Nat->BY)(F:Nat->List St):∀A,cG F A=dd ((List.range A).map λi=>(vs i,F i))
 | 0=>rfl
 | A+1=>by
  simp only[cG];rw[gH vs F A,range_succ,map_append,pO];simp[dd]
def fY.toL{A:Nat}{vs:Nat->BY}{F:Nat->List St}(h1:fY w S v A vs)(h2:∀i,i<A->Bv w S (vs i) (F i)):pT w S v ((List.range A).map λi=>(vs i,F i)):=by
 have hg:∀i,i<A->(((List.range A).map λi=>(vs i,F i)).getD i (.nilFunc,[]))=(vs i,F i):=λi h=>by
  rw[getD_at (Fc h)];simp
 refine⟨?_,λq hq=>?_⟩
 ·obtain⟨a,Z,rfl,U,J,g3⟩:=h1;refine⟨a,Z,i_,Fc U,J,λh0=>?_⟩;have Y:0<A:=Fc h0
  obtain⟨B,rfl,hB,hc⟩:=g3 Y;refine⟨B,rfl,hB,λi h=>?_⟩;have I:i<A:=Fc h
  show _=some ((((List.range A).map λi=>(vs i,F i)).getD i (.nilFunc,[])).1);rw[hg i I];exact hc i I
 ·simp only[mem_map,mem_range]at hq;obtain⟨i,h,rfl⟩:=hq;exact h2 i h
def Bk.toL{ss:List St}(h:Bk w S v ss):∃L,pT w S v L/\ss=dd L:=by
 obtain⟨A,vs,F,I,h2,rfl⟩:=h;exact⟨_,I.toL h2,gH vs F A⟩
def EV:List St->Bool
 | []=>false
 | s::_=>decide (s.kind=6)
def BL(L:List (BY×List St)):Prop:=∀i,i+1<L.length->EV (L.getD i (.nilFunc,[])).2=false
def Gk(w w':AT)(S:D6)(u:BY)(ss:List St):Prop:=∃(S':D6) (M:List (BY×List St)),pT w' (λB=>S B∨S' B) u M/\(∀B,S' B->w.heap.size<=B/\B<w'.heap.size)/\dd M=ss/\BL M
end
end Go.Proofs.YtffnkkpmlplfeaaGreatDoor
