import Derived.Test.YtlamjfhhefcohaaGreatDoorP41
import Derived.Test.YtlamjfhhefcohaaGreatDoorP33
namespace Go.Proofs.YtlamjfhhefcohaaGreatDoor
set_option linter.all false
set_option maxRecDepth 100000
set_option maxHeartbeats 16000000
variable[Inhabited Pick]
variable{g:Gl}{ps:List ByteArray}{f:Fu}{L:List Lm}{s:PS}
def gP(g:Gl):List Lm:=[iw,b1,wd g.name.data.toList]++((if g.size=0 then[]else[sy [91],nu g.size,sy [93]])++[sy [59],nl])
def oE(ps:List ByteArray)(i:Nat):List Lm:=[iw,b1,wd (ps.getD i ⟨#[]⟩).data.toList]
def fP(f:Fu)(L:List Lm):List Lm:=[iw,b1,wd f.name.data.toList,sy [40]]++jj (oE f.params) 0 f.params.length++([sy [41],b1,sy [123],nl]++L++[sy [125],nl])
theorem pV(h:bV g=true):sC (gP g) (bP g):=by
 obtain⟨h1,h2,h3⟩:=ff h;have hw:=iy (gd h1);have Ja:Ch [sy [59],nl]:=⟨gX [59],sep_kb,nl_ok⟩;refine⟨?_,?_,λq hq=>?_,λq hq=>?_⟩
 ·unfold gP bP;by_cases h0:g.size=0
  ·rw[if_pos h0,if_pos h0];simp[tL,iw,b1,wd,bk,sy,nl]
  ·rw[if_neg h0,if_neg h0];simp[tL,iw,b1,wd,bk,sy,nl,nu]
 ·refine cm (a:=[iw,b1,wd g.name.data.toList]) (p:=wd g.name.data.toList) (q:=if g.size=0 then sy [59]else sy [91]) ⟨zW [105,110,116],sep_kb,b1_ok,sep_bk,hw⟩ ?_ rfl ?_ ?_
  ·by_cases h0:g.size=0
   ·rw[if_pos h0];exact Ja
   ·rw[if_neg h0];exact⟨gX [91],λ_ _=>⟨.inl rfl,λ_=>.inl d_⟩,AV h2 o_,jk (.inr (.inl rfl)) (.inr rfl),gX [93],sep_s,Ja⟩
  ·by_cases h0:g.size=0
   ·rw[if_pos h0,if_pos h0];rfl
   ·rw[if_neg h0,if_neg h0];rfl
  ·split <;> exact sep_w
 ·rw[show gP g=([iw,b1,wd g.name.data.toList]++(if g.size=0 then[]else[sy [91],nu g.size,sy [93]]))++[sy [59],nl] by unfold gP;rw[List.append_assoc],aU (p:=nl) rfl]at hq;exact(Option.some.inj hq).symm
 ·unfold gP at hq;simp only[List.cons_append,List.head?_cons,Option.some.injEq]at hq;subst hq;exact .inl rfl
theorem rz(h:∀p∈ps,aK p=true)(j:Nat)(hj:j<ps.length):xj (oE ps j) (fj ps j):=by
 have hn:aK (ps.getD j ⟨#[]⟩)=true:=by
  rw[List.getD,List.getElem?_eq_getElem hj];exact h _ (g_ _)
 have hw:=gd hn;refine⟨?_,⟨zW [105,110,116],sep_kb,b1_ok,sep_bk,iy hw⟩,⟨_,rfl,by simp[iw,wd,Dn]⟩,⟨_,rfl,.inl rfl⟩⟩;unfold oE fj;simp[tL,iw,b1,wd,bk]
theorem pW(hn:aK f.name=true)(Jf:∀p∈f.params,aK p=true)(hL:sC L (aW f.body)):sC (fP f L) (funcT f):=by
 have hw:=iy (gd hn);have hP:=rz Jf;have Jc:Ch ([sy [41],b1,sy [123]]++[nl]):=⟨gX [41],sep_kb,b1_ok,sep_bk,gX [123],sep_kb,nl_ok⟩;have Ja:Ch ([sy [41],b1,sy [123],nl]++L++[sy [125],nl]):=by
  rw[List.append_assoc];exact nZ (a:=[sy [41],b1,sy [123]]) Jc (λq _=>jZ) (sD hL ⟨gX [125],sep_kb,nl_ok⟩)
 have Jb:Ch [iw,b1,wd f.name.data.toList,sy [40]]:=⟨zW [105,110,116],sep_kb,b1_ok,sep_bk,hw,sep_w,gX [40]⟩;unfold fP funcT;refine⟨?_,?_,λq hq=>?_,λq hq=>?_⟩
 ·rw[tL_app,tL_app,tL_app,tL_app,hL.tx,pI (fj f.params) (oE f.params) f.params.length (λj hj=>(hP j hj).tx)];simp[tL,iw,b1,wd,bk,sy,nl]
 ·by_cases hA:f.params.length=0
  ·rw[hA];exact cm (a:=[iw,b1,wd f.name.data.toList,sy [40]]) (p:=sy [40]) (q:=sy [41]) Jb Ja rfl rfl sep_s
  ·obtain⟨c1,⟨p,hp,Jd⟩,q,hq,Je⟩:=xk (oE f.params) f.params.length 0 o_ (λj _ hj=>⟨_,hP j o_⟩);exact cm (cm Jb c1 rfl hp (gQ (.inl d_) Jd)) Ja (aU hq) rfl (jk Je (.inr rfl))
 ·rw[aU (p:=nl) (aU rfl)]at hq;exact(Option.some.inj hq).symm
 ·simp only[List.cons_append,List.head?_cons,Option.some.injEq]at hq;subst hq;exact .inl rfl
section
variable{T:Nat->To}
theorem pX{nm:ByteArray}{r:List Lm}(h0:s.er=0)(hn:aK nm=true)(hM:Mt T s.i (iw::(wd nm.data.toList::r))):dj T s=(nm,gt s 2):=by
 obtain⟨m1,m2⟩:=mt_cons.1 hM;unfold dj;rw[D_ m1 h0,kj (s:=gt s 1) (mt_cons.1 m2).1 h0 hn];rfl
theorem tk_pr(ps:List ByteArray)(i:Nat):aV (oE ps i)=[iw,wd (ps.getD i ⟨#[]⟩).data.toList]:=by
 unfold oE;simp[tkn_wd,tkn_bk,tkn_nil,iw,b1]
theorem Fq(Jd:∀p∈ps,aK p=true):∀(m i:Nat),i+m=ps.length->(0<i->0<m)->∀(s:PS) (n:Nat) (a:List ByteArray) (s':PS),s.er=0->Mt T s.i (aV (jj (oE ps) i m)++[sy [41]])->Pa T n (.pl (ps.take i)) s (.p a) s' ->
  a=ps/\s'=gt s (aV (jj (oE ps) i m)).length:=by
 intro m;induction m with
 | zero=>
  intro i hA hi s n a s' h0 hM hp;obtain rfl:i=0:=by omega
  obtain rfl:=List.eq_nil_of_length_eq_zero (show ps.length=0 by omega);have m1:Tm (T s.i) (sy [41]):=(mt_cons.1 hM).1;rcases j_ hp with⟨h1,-⟩|⟨-,-,-,rfl,rfl⟩|⟨-,h1,-⟩
  ·exact absurd h0 h1
  ·exact⟨rfl,rfl⟩
  ·rcases h1 with h1|h1
   ·exact absurd rfl h1
   ·rw[bU m1 h0]at h1;simp at h1
 | succ m ih=>
  intro i hA hi s n a s' h0 hM hp;have Jb:i<ps.length:=o_;have Jc:aK (ps.getD i ⟨#[]⟩)=true:=by
   rw[List.getD,List.getElem?_eq_getElem Jb];exact Jd _ (g_ _)
  have Ja:ps.take i++[ps.getD i ⟨#[]⟩]=ps.take (i+1):=by
   rw[bM ps i Jb];simp[List.getD,List.getElem?_eq_getElem Jb]
  cases m with
  | zero=>
   have hR:aV (jj (oE ps) i 1)=[iw,wd (ps.getD i ⟨#[]⟩).data.toList]:=tk_pr ps i;rw[hR]at hM⊢;have hh:=pX h0 Jc hM;have m1:=(mt_cons.1 hM).1;have m3:=(mt_cons.1 (mt_app.1 hM).2).1;rcases j_ hp with⟨h1,-⟩|⟨-,-,h1,-⟩|⟨-,-,h2⟩
   ·exact absurd h0 h1
   ·rw[ct m1 h0 d_]at h1;cases h1
   ·rw[hh]at h2;rcases h2 with⟨-,rfl,rfl⟩|⟨h2,-⟩
    ·exact⟨by show ps.take i++[ps.getD i ⟨#[]⟩]=ps;rw[Ja,show i+1=ps.length by omega,List.take_length],rfl⟩
    ·rw[bU (s:=gt s 2) m3 h0]at h2;simp at h2
  | succ m=>
   rw[tkn_cm,tk_pr,List.append_assoc]at hM;have hh:=pX h0 Jc hM;have m1:=(mt_cons.1 hM).1;obtain⟨m2,m3⟩:=mt_app.1 hM;obtain⟨m4,m5⟩:=mt_cons.1 m3;rcases j_ hp with⟨h1,-⟩|⟨-,-,h1,-⟩|⟨-,-,h2⟩
   ·exact absurd h0 h1
   ·rw[ct m1 h0 d_]at h1;cases h1
   ·rw[hh]at h2;rcases h2 with⟨h2,-⟩|⟨-,k,-,h2⟩
    ·rw[bU (s:=gt s 2) m4 h0]at h2;simp at h2
    ·rw[ad_gt,gt_gt]at h2;rw[Ja]at h2;obtain⟨r1,r2⟩:=ih (i+1) o_ (λ_=>by omega) (gt s 3) k a s' h0 m5 h2;refine⟨r1,?_⟩;rw[r2,gt_gt,tkn_cm,tk_pr];congr 1
     simp
     omega
def Fr(T:Nat->To)(x:Gl ⊕ Fu)(ps:List Lm):Prop:=∀(s:PS) (n:Nat) (y:Gl ⊕ Fu) (s1:PS),s.er=0->Mt T s.i (aV ps)->Tp T n s y s1->(y=x/\s1=gt s (aV ps).length)∨s1.er=4
theorem De(h:bV g=true):Fr T (.inl g) (gP g):=by
 obtain⟨h1,h2,h3⟩:=ff h;intro s n y s1 h0 hM hp;by_cases hz:g.size=0
 ·have et:aV (gP g)=[iw,wd g.name.data.toList,sy [59]]:=by
   unfold gP;rw[if_pos hz];simp[tkn_wd,tkn_bk,tkn_sy,tkn_nil,iw,b1,nl]
  rw[et]at hM⊢;have hh:=pX h0 h1 hM;have m3:Tm (T (s.i+2)) (sy [59]):=(mt_cons.1 ((mt_app (a:=[iw,wd g.name.data.toList])).1 hM).2).1;cases hp using Tp_i with
  | fn ps s2 b _ q1 q2 q3=>rw[hh,bU (s:=gt s 2) m3 h0]at q1;simp at q1
  | ga q1 q2=>rw[hh,bU (s:=gt s 2) m3 h0]at q2;simp at q2
  | gv q1 q2=>
   rw[hh];refine .inl ⟨?_,?_⟩
   ·cases g;simp_all
   ·rw[kh (s:=gt s 2) m3 h0,gt_gt];rfl
 ·have et:aV (gP g)=[iw,wd g.name.data.toList,sy [91],nu g.size,sy [93],sy [59]]:=by
   unfold gP;rw[if_neg hz];simp[tkn_wd,tkn_bk,tkn_sy,tkn_nu,tkn_nil,iw,b1,nl]
  rw[et]at hM⊢;have hh:=pX h0 h1 hM;obtain⟨m3,m4⟩:=mt_cons.1 ((mt_app (a:=[iw,wd g.name.data.toList])).1 hM).2;obtain⟨m5,m6⟩:=mt_cons.1 m4;obtain⟨m7,m8⟩:=mt_cons.1 m6;have m9:=(mt_cons.1 m8).1;have Ja:Tm (T (gt s 2).i) (sy [91]):=m3;cases hp using Tp_i with
  | fn ps s2 b _ q1 q2 q3=>rw[hh,bU (s:=gt s 2) Ja h0]at q1;simp at q1
  | gv q1 q2=>rw[hh,bU (s:=gt s 2) Ja h0]at q2;simp at q2
  | ga q1 q2=>
   rw[hh];rcases kg (s:=gt s 2) Ja h0 with h5|h5
   ·have Jb:Tm (T (s.i+2+1)) (nu g.size):=m5;have Je:fZ T ⟨(gt s 2).i+1,(gt s 2).op+1,0,(gt s 2).pl⟩=(g.size,⟨s.i+4,s.op+1,0,s.pl⟩):=by
     unfold fZ;rw[if_pos ⟨rfl,Jb.1⟩];show((T (s.i+2+1)).num,_)=_;rw[Jb.2.1 rfl];rfl
    have Jc:Tm (T (⟨s.i+4,s.op+1,0,s.pl⟩:PS).i) (sy [93]):=m7;have Jd:Tm (T (⟨s.i+4+1,s.op+1-1,0,s.pl⟩:PS).i) (sy [59]):=m9;rw[h5,Je];refine .inl ⟨?_,?_⟩
    ·show Sum.inl (⟨g.name,qa g.size⟩:Gl)=Sum.inl g;unfold qa;rw[if_neg hz]
    ·show bq T [59] (cO T [93] ⟨s.i+4,s.op+1,0,s.pl⟩)=_;rw[mO Jc rfl,kh Jd rfl];show(⟨s.i+4+1+1,s.op+1-1,0,s.pl⟩:PS)=⟨s.i+6,s.op,s.er,s.pl⟩;rw[h0,show s.op+1-1=s.op by omega]
   ·refine .inr (cM (bQ _ _) (cM (bG _ _) (cM (rI _) h5)))
theorem Df(hn:aK f.name=true)(Jb:∀p∈f.params,aK p=true)(hB:D0 T f.body L):Fr T (.inr f) (fP f L):=by
 intro s n y s1 h0 hM hp;have et:aV (fP f L)=[iw,wd f.name.data.toList]++(sy [40]::((aV (jj (oE f.params) 0 f.params.length)++[sy [41]])++(sy [123]::(aV L++[sy [125]])))):=by
  unfold fP;simp[tkn_app,tkn_wd,tkn_bk,tkn_sy,tkn_nil,iw,b1,nl]
 rw[et]at hM⊢;have hh:=pX h0 hn hM;obtain⟨m3,m4⟩:=mt_cons.1 (mt_app.1 hM).2;obtain⟨m5,m6⟩:=mt_app.1 m4;have m7:=(mt_cons.1 (mt_app.1 m5).2).1;have Ja:Tm (T (gt s 2).i) (sy [40]):=m3;cases hp using Tp_i with
 | ga q1 q2=>rw[hh,bU (s:=gt s 2) Ja h0]at q1;simp at q1
 | gv q1 q2=>rw[hh,bU (s:=gt s 2) Ja h0]at q1;simp at q1
 | fn ps s2 b _ q1 q2 q3=>
  rw[hh]at q2⊢;rcases kg (s:=gt s 2) Ja h0 with h5|h5
  ·rw[h5]at q2;obtain⟨r1,r2⟩:=Fq Jb f.params.length 0 o_ (λh=>absurd h (Nat.lt_irrefl _)) ⟨s.i+2+1,s.op+1,0,s.pl⟩ n ps s2 rfl m5 q2;subst r1 r2;rw[mO (s:=gt ⟨s.i+2+1,s.op+1,0,s.pl⟩ _) m7 rfl]at q3;have e1:(⟨(gt ⟨s.i+2+1,s.op+1,0,s.pl⟩ (aV (jj (oE f.params) 0 f.params.length)).length:PS).i+1,(gt ⟨s.i+2+1,s.op+1,0,s.pl⟩ (aV (jj (oE f.params) 0 f.params.length)).length:PS).op-1,0,(gt ⟨s.i+2+1,s.op+1,0,s.pl⟩ (aV (jj (oE f.params) 0 f.params.length)).length:PS).pl⟩:PS)=gt s (2+1+(aV (jj (oE f.params) 0 f.params.length)).length+1):=by
    simp only[gt,PS.mk.injEq];exact⟨o_,o_,h0.symm,trivial⟩
   rw[e1]at q3;rcases zZ hB (s:=gt s (2+1+(aV (jj (oE f.params) 0 f.params.length)).length+1)) h0 (by
    rw[gt_i];have e2:s.i+(2+1+(aV (jj (oE f.params) 0 f.params.length)).length+1)=s.i+[iw,wd f.name.data.toList].length+1+(aV (jj (oE f.params) 0 f.params.length)++[sy [41]]).length:=by simp;omega
    rw[e2];exact m6) q3 with⟨rfl,rfl⟩|h4
   ·refine .inl ⟨rfl,?_⟩;rw[gt_gt];congr 1;simp;omega
   ·exact .inr h4
  ·exact .inr (cM q3.dm (cM (bG _ _) (cM q2.dm h5)))
end
def Fs:Gl ⊕ Fu->List UInt8
 | .inl g=>bP g
 | .inr f=>funcT f
theorem yH:∀xs:List (Gl ⊕ Fu),(∀x∈xs,∃ps,sC ps (Fs x)/\(∃r,ps=iw::r)/\∀T,Fr T x ps)->∃ps,sC ps (xs.flatMap Fs)/\∀(T:Nat->To) (n:Nat) (s:PS) (t t':Tr) (s':PS),s.er=0->Mt T s.i (aV ps)->(T (s.i+(aV ps).length)).kind=4->Pg T n s t t' s'->(t'=xs.foldl ci t/\s'.er=0)∨s'.er=4
 | [],_=>⟨[],⟨rfl,trivial,(λp h=>by cases h),(λp h=>by cases h)⟩,λT n s t t' s' h0 hM hk hp=>by
  have hk:(T s.i).kind=4:=hk;cases hp using Pg_i with
  | done s t h=>exact .inl ⟨rfl,h0⟩
  | more s t x s1 t' s' h1 h2 h3 h4=>exact absurd hk h2⟩
 | x::xs,hx=>by
  obtain⟨p1,l1,⟨r,hr⟩,q1⟩:=hx x List.mem_cons_self;obtain⟨p2,l2,q2⟩:=yH xs (λy hy=>hx y (m_ _ hy));refine⟨p1++p2,?_,λT n s t t' s' h0 hM hk hp=>?_⟩
  ·rw[List.flatMap_cons];exact l1.app l2
  ·rw[tkn_app]at hM hk;obtain⟨m1,m2⟩:=mt_app.1 hM;rw[l_a]at hk;cases hp using Pg_i with
   | done s t h=>
    have m3:=m1;rw[hr,show iw=wd [105,110,116]from rfl,tkn_wd]at m3;have:=(mt_cons.1 m3).1.1;rcases h with h|h
    ·exact absurd h0 h
    ·rw[this]at h;simp[wd]at h
   | more s t y s1 t' s' h1 h2 h3 h4=>
    rcases q1 T s n y s1 h0 m1 h3 with⟨rfl,rfl⟩|h5
    ·exact q2 T n (gt s (aV p1).length) _ t' s' h0 m2 (by rw[gt_i,Nat.add_assoc];exact hk) h4
    ·exact .inr (cM h4.dm h5)
theorem yI(gs:List Gl)(fs:List Fu):∀t:Tr,(gs.map Sum.inl++fs.map Sum.inr).foldl ci t=⟨t.globals++gs,t.funcs++fs⟩:=by
 induction gs with
 | nil=>
  induction fs with
  | nil=>intro t;simp
  | cons f fs ih=>intro t;simp only[List.map_nil,List.nil_append,List.map_cons,List.foldl_cons]at ih⊢;rw[ih];simp[ci]
 | cons g gs ih=>intro t;simp only[List.map_cons,List.cons_append,List.foldl_cons];rw[ih];simp[ci]
theorem rA{t:Tr}(ht:cK t=true)(hn:∀f∈t.funcs,∀s∈f.body,∀n,n∈s.e∨n∈s.f->n.kind=1->0<=n.val){K k:Nat}{t':Tr}(hR:Rn (cZ t) (ai (cZ t)) K k t' s):(s.er=0/\t'=t)∨s.er=4:=by
 obtain⟨h1,h2,h3,h4⟩:=fY ht;obtain⟨ps,l1,q1⟩:=yH (t.globals.map Sum.inl++t.funcs.map Sum.inr) (λx hx=>by
  rcases List.mem_append.1 hx with hx|hx
  ·obtain⟨g,hg,rfl⟩:=List.mem_map.1 hx;exact⟨gP g,pV (h3 g hg),⟨_,rfl⟩,λT=>De (h3 g hg)⟩
  ·obtain⟨f,hf,rfl⟩:=List.mem_map.1 hx;have Ja:=dd (h4 f hf);obtain⟨L,g1,g2⟩:=Ab f.body.length f.body n_ Ja.good (hn f hf);exact⟨fP f L,pW Ja.name Ja.pars g1,⟨_,rfl⟩,λT=>Df Ja.name Ja.pars (g2 T).1⟩)
 have Jb:(t.globals.map Sum.inl++t.funcs.map Sum.inr).flatMap Fs=cZ t:=by
  rw[List.flatMap_append,List.flatMap_map,List.flatMap_map];rfl
 rw[Jb]at l1;obtain⟨m1,m2⟩:=qJ l1.ch;rw[l1.tx]at m1 m2;rcases q1 (ai (cZ t)) _ qy t00 t' s rfl m1 (by show(ai (cZ t) (0+_)).kind=4;rw[Nat.zero_add];exact m2) hR.pg.pg with⟨r1,r2⟩|h5
 ·refine .inl ⟨r2,?_⟩;rw[r1,yI];simp[t00]
 ·exact .inr h5
end Go.Proofs.YtlamjfhhefcohaaGreatDoor
