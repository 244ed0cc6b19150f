import Derived.Deep.Cut
import Derived.Test.YtjfmapphpijneaaGreatDoorS50
namespace Go.Proofs.YtjfmapphpijneaaGreatDoor
set_option linter.all false
set_option maxRecDepth 100000
set_option maxHeartbeats 0
open List Go.Proofs.Tryz Go.RowKit
variable[Inhabited Pick]
section
variable{x:Int}
def jl(x:Int):Bool:=decide (-2147483648<=x/\x<=2147483647)
def He(h:jl x=true):wrap32 x=x:=by simp only[jl,J2]at h;unfold wrap32;omega
def Fm(h:jl x=false):x≠wrap32 x:=by simp only[jl,decide_eq_false_iff_not]at h;intro e;apply h;rw[e];unfold wrap32;omega
end
def CY(x:Int):Bool:=decide (0<=x/\x<=1000000)
structure wC (t:Tr) (sc:List Io) (ss:List St):Prop where
 snd:Gg t ss sc
 ok:∀s∈ss,stmtB s=true/\s.e.length<=1048576/\s.f.length<=1048576
 fit:bw ss=true
 ln:ss.length<=1000000
def wb(u:Int):Nat:=if u=0 then 0 else 1
section
variable{α:Type}
def pE(e:Int):Int:=if e=3 then 2 else if e=4 then 3 else 1
def sN(e:Int)(w:AT):Calls prog 30 #[V e] w λx w'=>x=rW (V (pE e))/\w'=w:=by
 by_cases h3:e=3
 ·subst h3;go_in;go_wp2;go_ret;exact⟨rfl,rfl⟩
 by_cases h4:e=4
 ·subst h4;go_in;go_wp2;go_ret;exact⟨rfl,rfl⟩
 have J:(e == 3)=false:=(IN h3);have U:(e == 4)=false:=(IN h4);have I:pE e=1:=(by unfold pE;rw[if_neg h3,if_neg h4]);rw[I];go_in;go_wp2;go_ret;exact⟨rfl,rfl⟩
def uU(x:Int)(w:AT):Calls prog 77 #[V x] w λe w'=>e=rW (V (wrap32 x))/\w'=w:=by
 have I:IntKind.i64.wrap (wrap32 x)=wrap32 x:=by
  have:=B6 x
  unfold d7 Ge at this;simp[IntKind.wrap,IntKind.bits,IntKind.signed];omega
 go_in;go_wp2;go_ret;exact⟨rfl,rfl⟩
def uV(p:α->Bool)(l:List α)(k:Nat)(I:k<l.length)(h:(l.take k).all p=true)(J:p l[k]=true):(l.take (k+1)).all p=true:=by rw[take_succ_eq_append_getElem I,all_append,h];simp[J]
def yW(p:α->Bool)(l:List α)(k:Nat)(h:k<l.length)(I:p l[k]=false):l.all p=false:=by rw[all_eq_false];exact⟨l[k],g_ h,by simp[I]⟩
theorem sO(v:BY)(l:List Int)(w:AT)(hv:nL w v l):Calls prog 52 #[v] w λe w'=>e=rW (.bool (l.all jl))/\w'=w:=by
 obtain⟨a,c,rfl,h1,h2,h3⟩:=hv;have HA:=ah h3;clear h3;go_in;go_wp2;go_loopw[7] (λi wr=>∃k:Nat,k<=l.length/\i=V (k:Int)/\(l.take k).all jl=true/\wr=w) (λi _=>l.length-(RowKit.intOf i).toNat)
 case atStart=>exact⟨0,y_,rfl,rfl,rfl⟩
 case round=>
  obtain⟨k,hk,rfl,ha,rfl⟩:=hrel;have Ja:=ah ha;by_cases hlt:k<l.length
  ·have Jd:(k:Int)<(l.length:Int):=o_
   obtain⟨b,Je,rfl,hc⟩:=HA o_;have Jc:=hc k hlt;have⟨x,J⟩:=q_ (l[k]);rw[<-J]at Jc;have HX:=ah J;clear J hc;go_wp2_with fail;refine(uU x wr).mono ?_;rintro e w2 ⟨rfl,Jb⟩;rw[Jb];cases hb:jl x with
   | true=>
    have U:=He hb;have I:Hid (jl l[k]=true):=(by rw[<-HX.o];exact hb);rw[U];clear hb U;go_wp2;go_roundw
    case rel=>exact⟨k+1,o_,by go_num,uV _ _ _ hlt Ja I,by first|rfl|trivial⟩
    case measure=>exact IF
   | false=>have U:(wrap32 x != x)=true:=(by simpa using λe=>Fm hb e.symm);have I:Hid (l.all jl=false):=yW _ _ _ hlt (by rw[<-HX.o];exact hb);go_wp2;go_ret;exact⟨by have Z:=I.o;simp[Z],rfl⟩
  obtain rfl:k=l.length:=(by omega);have I:Hid (l.all jl=true):=(by have:=Ja.o;rwa[take_length]at this);go_wp2;go_ret;exact⟨by have Z:=I.o;simp[Z],rfl⟩
def pF(v:BY)(l:List Int)(w:AT)(J:nL w v l):Calls prog 26 #[v] w λe w'=>e=rW (.bool (decide (l.length<=1000)&&l.all jl))/\w'=w:=by
 have Z:=ah (sO v l w J);obtain⟨a,c,rfl,h1,h2,h3⟩:=J;by_cases h:l.length<=1000
 ·have U:(l.length:Int)<=1000:=o_
  have I:decide (l.length<=1000)=true:=IN h;rw[I];go_in;go_wp2_with fail;refine Z.o.mono ?_;rintro e w2 ⟨rfl,Ja⟩;rw[Ja];go_wp2;go_ret;exact⟨i_,rfl⟩
 have U:¬(l.length:Int)<=1000:=o_;have I:decide (l.length<=1000)=false:=IN h;rw[I];go_in;go_wp2;go_ret;exact⟨i_,rfl⟩
theorem mZ(vg vf v:BY)(I:List Fu)(l:List Int)(w:AT)(hf:bj w vf I)(hg:∃ag ng cg,vg=.slice ag ng cg)(hv:nL w v l):Calls prog 27 #[.agg #[vg,vf],v] w λe w'=>e=rW (.bool (decide (l.length=I.length)&&l.all CY))/\Bl w w':=by
 obtain⟨a,c,rfl,h1,h2,h3⟩:=hv;obtain⟨af,cf,rfl,-,-,-⟩:=hf;obtain⟨ag,ng,cg,rfl⟩:=hg;have HA:=ah h3;clear h3;have⟨W1,Jb⟩:=q_ (w.alloc (.cells #[.slice ag ng cg,.slice af I.length cf] 26));have Jg:Bl w W1:=by rw[Jb];exact r_.alloc n_ _
 have Jc:aN W1 w.heap.size [.slice ag ng cg,.slice af I.length cf]:=by rw[Jb];exact aI w _ _ i_
 have⟨B,J⟩:=q_ w.heap.size;rw[<-J]at Jc;have x1:=(Jc 1 _ rfl).1;have Je:=ah Jb;have Jd:=ah J;have Ja:=ah Jg;clear Jb J Jg Jc;by_cases h:l.length=I.length
 ·have Z:decide (l.length=I.length)=true:=IN h
  rw[Z,Bool.true_and];clear Z;have Jh:((l.length:Int) != (I.length:Int))=false:=by rw[h];simp
  generalize I.length=fl at*;clear h;go_in;go_upto_region 1 with fail;rw[<-Je.o,<-Jd.o];go_wp2;go_loopw[15] (λi wr=>∃k:Nat,k<=l.length/\i=V (k:Int)/\(l.take k).all CY=true/\wr=W1) (λi _=>l.length-(RowKit.intOf i).toNat)
  case atStart=>exact⟨0,y_,rfl,rfl,rfl⟩
  case round=>
   obtain⟨k,hk,rfl,ha,rfl⟩:=hrel;have Jf:=ah ha;clear ha;by_cases hlt:k<l.length
   ·have Jk:(k:Int)<(l.length:Int):=o_
    obtain⟨b,Ji,rfl,hc⟩:=HA o_;have Jj:=(Ja.o.cell (p:=⟨b,Ji+k,none⟩) (b_ (hc k hlt))).trans (hc k hlt);have⟨x,hx⟩:=q_ (l[k]);rw[<-hx]at Jj;have HX:=ah hx;clear hx hc;cases hb:CY x with
    | true=>
     have U:Hid (CY l[k]=true):=(by rw[<-HX.o];exact hb);simp only[CY,J2]at hb;have n1:¬x<0:=o_;have n2:¬(1000000:Int)<x:=o_;clear hb;go_wp2;go_roundw
     case rel=>exact⟨k+1,o_,by go_num,uV _ _ _ hlt Jf U,by first|rfl|trivial⟩
     case measure=>exact IF
    | false=>
     have U:Hid (l.all CY=false):=yW _ _ _ hlt (by rw[<-HX.o];exact hb);simp only[CY,decide_eq_false_iff_not]at hb;by_cases n1:x<0
     ·clear hb
      go_wp2;go_ret;exact⟨by have J:=U.o;simp[J],Ja.o⟩
     have n2:(1000000:Int)<x:=o_;clear hb;go_wp2;go_ret;exact⟨by have J:=U.o;simp[J],Ja.o⟩
   obtain rfl:k=l.length:=(by omega);have U:Hid (l.all CY=true):=(by have:=Jf.o;rwa[take_length]at this);go_wp2;go_ret;exact⟨by have J:=U.o;simp[J],Ja.o⟩
 have Z:decide (l.length=I.length)=false:=IN h;rw[Z,Bool.false_and];clear Z;have Jh:((l.length:Int) != (I.length:Int))=true:=by simp;omega
 generalize I.length=fl at*;clear h;go_in;go_upto_region 1 with fail;rw[<-Je.o,<-Jd.o];go_wp2;go_ret;exact⟨rfl,Ja⟩
end
section
variable{s:St}{t:Tr}{w:AT}{n cap:Nat}{a:Option Addr}
def mJ(h:stmtB s=true):(1<=s.kd/\s.kd<=8)/\oneB s.e=true/\(s.kd=3->oneB s.f=true):=by unfold stmtB at h;simp only[J1,J2]at h;obtain⟨⟨⟨⟨⟨⟨I,-⟩,h2⟩,h3⟩,-⟩,-⟩,-⟩:=h;refine⟨I,h2,λhk=>?_⟩;rw[if_pos hk]at h3;exact h3
theorem uW{t:Tr}{fr:List Int}:∀(n:Nat) {s:St} {a b:List St} {z z':ES},Ev t fr n (.p s a b) z .on z'->OkW z->z'.l.map Prod.fst=aP s (z.l.map Prod.fst)
 | 0,_,_,_,_,_,h,_=>by first | cases h using Ev_i | cases h
 | n+1,s,a,b,z,z',h,ho=>by
  have key:∀ {r z1},Ev t fr n (.e s.e) z r z1->OkW z1/\z1.l=z.l:=λh1=>by
   have:=h1.inv ho trivial
   exact⟨this.1,this.2.2.2.2.2⟩
  have keyb:∀ {ss z1 r z2},Ev t fr n (.bl ss) z1 r z2->OkW z1->OkW z2/\z2.l.map Prod.fst=z1.l.map Prod.fst:=λh1 h2=>by
   have:=h1.inv h2 trivial
   exact⟨this.1,this.2.2.2.2.2⟩
  by_cases hk:s.kd=3;have hs:aP s (z.l.map Prod.fst)=z.l.map Prod.fst:=(by unfold aP;rw[if_neg o_]);rw[hs];rcases CX h hk with⟨c,J,-⟩|⟨v,z1,e1,⟨c,J,-⟩|⟨x,z2,e2,⟨-,J,-⟩|⟨-,-,rfl⟩⟩⟩;cases J;cases J;cases J
  have⟨o1,I⟩:=key e1;have l2:=(e2.inv o1 trivial).2.2.2.2.2;have l2:z2.l=z1.l:=l2;rw[(ue (t:=t) (s:=z2) (x:=s.nm) (j:=v.toNat) (v:=x)).2.2.1,l2,I]
  rcases Fl h hk with⟨c,J,-⟩|⟨v,z1,e1,h1⟩;cases J
  have⟨o1,I⟩:=key e1;rcases h1 with⟨U,-,rfl⟩|⟨U,-,rfl⟩|⟨U,J,-⟩|⟨U,-,rfl⟩|⟨U,-,rfl⟩|⟨U,Z⟩|⟨U,hw⟩
  unfold aP;rw[if_pos U];show(z1.l++[(s.nm,v)]).map Prod.fst=_;rw[I];simp;unfold aP;rw[if_neg o_,(oL (t:=t) (s:=z1) (x:=s.nm) (v:=v)).2.2.1,I];cases J;unfold aP;rw[if_neg o_];show z1.l.map Prod.fst=_;rw[I];unfold aP;rw[if_neg o_,I];have hs:aP s (z.l.map Prod.fst)=z.l.map Prod.fst:=(by unfold aP;rw[if_neg o_]);rw[hs];rcases Z with⟨-,Z⟩|⟨-,Z⟩;rw[(keyb Z o1).2,I];rw[(keyb Z o1).2,I];have hs:aP s (z.l.map Prod.fst)=z.l.map Prod.fst:=(by unfold aP;rw[if_neg o_]);rw[hs];rcases hw with⟨-,-,rfl⟩|⟨-,rb,zb,Z,⟨h1,h2,-⟩|⟨-,-,h2,-⟩|⟨-,-,hp⟩⟩;rw[I];exact absurd h2.symm h1;cases h2
  have⟨ob,lb⟩:=keyb Z o1;have:=uW n hp ⟨ob.g,ob.l,ob.i⟩
  rw[this];unfold aP;rw[if_neg o_];show zb.l.map Prod.fst=_;rw[lb,I]
def wC.cons{I:List Io}{q:List St}(h:wC t I (s::q)):GJ t I s/\(s.kd=4\/s.kd=5->wC t I (q.take s.th.toNat)/\wC t I ((q.drop s.th.toNat).take s.el.toNat))/\wC t (aP s I) (q.drop (s.th.toNat+s.el.toNat))/\(0<=s.th/\s.th<=q.length/\0<=s.el/\s.el<=q.length-s.th):=by
 have⟨⟨tk,h1,h2⟩,h3,h4,h5⟩:=h.snd.cons;have J:=h.fit;rw[fitB_cons,J1,J1,J1,decide_eq_true_iff]at J;obtain⟨Z,f1,U,f3⟩:=J;have Ja:=h.ln;simp only[l_c]at Ja;refine⟨nu h2 h1,λh45=>?_,⟨h5,λx hx=>h.ok x (m_ _ (J6 hx)),f3,by simp;omega⟩,Z⟩;have hs:aP s I=I:=by unfold aP;rw[if_neg o_]
 rw[hs]at h3 h4;refine⟨⟨h3,λx hx=>h.ok x (m_ _ (mem_of_mem_take hx)),f1,by simp;omega⟩,h4,λx hx=>h.ok x (m_ _ (J6 (mem_of_mem_take hx))),?_,by simp;omega⟩;have e:(q.take (s.th.toNat+s.el.toNat)).drop s.th.toNat=(q.drop s.th.toNat).take s.el.toNat:=by rw[drop_take];congr 1;omega
 rw[<-e];exact U
end
theorem Hf{t:Tr}{fr:List Int}{j:Nat}{s:St}{q:List St}{z:ES}{r:ER}{I:ES}(h:Ev t fr j (.sq (s::q)) z r I):(z.u=0/\r=.out 2/\I=z)\/(0<z.u/\∃j1 r1 z1,j=j1+1/\Ev t fr j1 (.p s (q.take s.th.toNat) ((q.drop s.th.toNat).take s.el.toNat)) z.sp r1 z1/\((r1 ≠ .on/\r=r1/\I=z1)\/(r1=.on/\Ev t fr j1 (.sq (q.drop (s.th.toNat+s.el.toNat))) z1 r I))):=by
 cases h using Ev_i with
 | sdry _ _ _ _ h1=>exact .inl ⟨h1,rfl,rfl⟩
 | send _ _ _ _ _ _ h1 h2 h3=>exact .inr ⟨h1,_,_,_,rfl,h2,.inl ⟨h3,rfl,rfl⟩⟩
 | next _ _ _ _ z1 _ _ h1 h2 h3=>exact .inr ⟨h1,_,_,_,rfl,h2,.inr ⟨rfl,h3⟩⟩
section
variable{C:RC}{w:AT}{c vl:Int}{rt:Bool}{lb:List Nat}{vL vI vO:BY}{s s':ES}
end
section
variable{f:Fu}{C:RC}{w:AT}{c vl:Int}{rt:Bool}{lb:List Nat}{vL vI vO:BY}{s s':ES}
theorem mK{l:List St}{s:St}(h:s∈l):s.e.length+s.f.length<=aK l:=by
 induction l with
 | nil=>cases h
 | cons x r ih=>
  simp only[aK]at ih⊢;rcases mem_cons.1 h with rfl|h;omega
  have:=ih h
  omega
def yX{t:Tr}(h:(aQ t).1=0)(U:f∈t.fc):wC t f.pm f.bd/\qO t f.pm/\f.pm.length<=6:=by obtain⟨J,-,h2⟩:=dA h;have⟨I,Z⟩:=h2 f U;simp only[cM,J1,J2,all_eq_true]at J;have Ja:=J.2.2.2 f U;simp only[cC,J1,J2,stmtsB,all_eq_true]at Ja;obtain⟨-,q2,q3,-,⟨q5,q6⟩,q7⟩:=Ja;exact⟨⟨I,λs I=>⟨q6 s I,Ka (mK I),Ka (mK I)⟩,q7,o_⟩,Z,q2⟩
def xq{vs:List Int}(h:vs.length=f.pm.length):(eU f vs).map Prod.fst=f.pm:=by unfold eU;rw[map_fst_zip o_]
end
section
variable{t:Tr}
def yY{sc:List Io}{e:List Nd}(h:wB t sc e):EH t e:=λn hn hk=>by obtain⟨f,hf,-⟩:=jU (h n hn) hk;exact⟨f,hf⟩
theorem nO{t:Tr}:∀(m:Nat) (ss:List St) (sc:List Io),ss.length<=m->Gg t ss sc->(∀s∈ss,stmtB s=true)->∀s∈ss,Gf t s
 | 0,ss,sc,hl,_,_,s,hs=>by
  have:ss=[]:=J3 o_
  subst this;cases hs
 | m+1,[],sc,hl,h,hB,s,hs=>by cases hs
 | m+1,x::q,sc,hl,h,hB,s,hs=>by
  have⟨⟨tk,h1,h2⟩,h3,h4,h5⟩:=h.cons;simp only[l_c]at hl;rcases mem_cons.1 hs with rfl|hs
  have hk:=nu h2 h1;have⟨p1,p2,p3⟩:=mJ (hB s (mem_cons_self ..));exact⟨p1,⟨p2,yY hk.e⟩,λh3=>⟨p3 h3,yY hk.f⟩⟩;have e:q=q.take x.th.toNat++((q.drop x.th.toNat).take x.el.toNat++q.drop (x.th.toNat+x.el.toNat)):=by rw[<-drop_drop,take_append_drop,take_append_drop]
  rw[e]at hs;rcases J5.1 hs with hs|hs;exact nO m _ _ H6 h3 (λy hy=>hB y (m_ _ (mem_of_mem_take hy))) s hs;rcases J5.1 hs with hs|hs;exact nO m _ _ H6 h4 (λy hy=>hB y (m_ _ (J6 (mem_of_mem_take hy)))) s hs;exact nO m _ _ H6 h5 (λy hy=>hB y (m_ _ (J6 hy))) s hs
def yZ(fr:List Int)(h:(aQ t).1=0)(f:Nat)(U:f<t.fc.length)(vs:List Int)(s:ES):∃n r s',Ev t fr n (.c f vs) s r s'/\s'.u<=s.u:=by obtain⟨n,r,s',J,h2,-⟩:=EI t fr (λg hg x hx=>by obtain⟨I,-,-⟩:=yX h hg;exact nO g.bd.length g.bd g.pm n_ I.snd (λy hy=>(I.ok y hy).1) x hx) s.u ((Tk.c f vs).sz t) (.c f vs) s rfl n_ U;exact⟨n,r,s',J,h2⟩
end
