import Derived.Test.YtjfmapphpijneaaGreatDoorS26
namespace Go.Proofs.YtjfmapphpijneaaGreatDoor
open Go.World List
open Go.Proofs.Tryz Go.RowKit
set_option linter.all false
set_option maxRecDepth 100000
set_option maxHeartbeats 0
variable[Inhabited Pick]
def Aj(f:Fu)(vp vb:BY)(w:AT)(hf:fk f)(hp:be w vp f.pm)(hb:aZ w vb f.bd):
  Calls prog 46 #[.agg #[sV f.nm,vp,vb]] w λe w'=>e=rW (.bool (cC f))/\Bl w w':=by
 obtain⟨name,ps,ss⟩:=f;simp only at hp hb⊢;have⟨HP,HS,HF⟩:=h3 hp hb hf;have Ju:ps.length<=1048576:=HF.o.1;have Jn:ss.length<=1048576:=HF.o.2.1;obtain⟨ap,cp,rfl,-,-,Jp⟩:=hp;obtain⟨ab,cb,rfl,-,-,Jl⟩:=hb;have⟨Jm,Jr⟩:=h2 Jp Jl;go_in;go_wp2_with fail;refine(cK _ _).mono ?_;rintro e w1 ⟨rfl,rfl⟩;have Jh:Below (w.heap.size+1) (w.alloc (.cells #[sV name,.slice ap ps.length cp,.slice ab ss.length cb] 52)) (w.alloc (.cells #[sV name,.slice ap ps.length cp,.slice ab ss.length cb] 52)):=r_;have Jd:=aw Jh;have⟨x0,x1,x2⟩:=mY Jh;cases hn:bh name
 ·go_wp2;go_ret;exact⟨ak (by simp only[cC,hn,Bool.false_and]),Jd⟩
 by_cases h6:6<ps.length
 ·go_wp2;go_ret;exact⟨ak (by simp only[cC,hn,decide_eq_false (show ¬ps.length<=6 by omega),Bool.false_and,Bool.and_false]),Jd⟩
 by_cases h5:500<ss.length
 ·go_wp2;go_ret;exact⟨ak (by simp only[cC,hn,decide_eq_false (show ¬ss.length<=500 by omega),Bool.false_and,Bool.and_false]),Jd⟩
 have Jc:Hid (cC ⟨name,ps,ss⟩=(ps.all bh&&(stmtsB bH ss&&bw ss))):=by show _=_;rw[wI];simp only[cC,hn,decide_eq_true (show ps.length<=6 by omega),decide_eq_true (show ss.length<=500 by omega),Bool.true_and]
 go_wp2;go_loopw[3] (λi wr=>∃k:Nat,k<=ps.length/\i=V k/\(∀s∈ps.take k,bh s=true)/\Below (w.heap.size+1) (w.alloc (.cells #[sV name,.slice ap ps.length cp,.slice ab ss.length cb] 52)) wr) (λi _=>ps.length-(RowKit.intOf i).toNat)
 case atStart=>exact⟨0,y_,rfl,i_,Jh⟩
 case round=>
  obtain⟨k,hk,rfl,hg,I⟩:=hrel;have J:=ah hg;have Ja:=aw I;by_cases hlt:k<ps.length
  ·obtain⟨b,Jk,rfl,hc⟩:=Jm o_;have d0:=(hc.below Ja) k hlt;have HE:Hid (ps.take (k+1)=ps.take k++[ps[k]]):=aU ps k hlt;have HX:Hid (bh ps[k]=false->ps.all bh=false):=yp hlt;generalize ps[k]=s at d0 HE HX;have⟨x0,x1,x2⟩:=mY I;have Jb:=I;cases hv:bh s
   ·go_wp2_with(go_at_call 44;refine(cK _ _).mono ?_;rintro e w' ⟨rfl,rfl⟩;rw[hv])
    go_ret;exact⟨ak (by rw[Jc.o,HX.o hv];rfl),aw Jb⟩
   go_wp2_with(go_at_call 44;refine(cK _ _).mono ?_;rintro e w' ⟨rfl,rfl⟩;rw[hv]);go_roundw
   case rel=>refine⟨k+1,o_,by go_num,λm hm=>?_,Jb⟩;rw[HE.o]at hm;rcases J5.1 hm with hm|hm;exact J m hm;rw[J7.1 hm];exact hv
   case measure=>exact IF
  have HA:Hid (ps.all bh=true):=by show _=_;rw[all_eq_true];have:=J.o;rw[take_of_length_le o_]at this;exact this
  have⟨x0,x1,x2⟩:=mY I;go_wp2;go_loopw[4,5] (λq i wr=>∃k:Nat,k<=ss.length/\i=V k/\q=V (aK (ss.take k):Nat)/\aK (ss.take k)<=2000/\(∀s∈ss.take k,bH s=true)/\Below (w.heap.size+1) (w.alloc (.cells #[sV name,.slice ap ps.length cp,.slice ab ss.length cb] 52)) wr) (λ_ i _=>ss.length-(RowKit.intOf i).toNat)
  case atStart=>exact⟨0,y_,rfl,rfl,by simp[aK],i_,I⟩
  case round=>
   obtain⟨k,hk,rfl,rfl,hq,hg,I⟩:=hrel;have J:=ah hg;have Ja:=aw I;by_cases hlt:k<ss.length
   ·obtain⟨b,Jk,rfl,hc⟩:=Jr o_;have⟨ve,vf,⟨c0,c1,c2,c3,c4,c5⟩,he,hf⟩:=(hc.below Ja) k hlt;have HE:Hid (ss.take (k+1)=ss.take k++[ss[k]]):=aU ss k hlt;have HX:Hid (bH ss[k]=false->stmtsB bH ss=false):=oC hlt;have U:Hid _:=kN ss k hlt;have HY:Hid (2000<aK (ss.take (k+1))->stmtsB bH ss=false):=oB;have Jf:=HF.o.2.2 ss[k] (g_ hlt);generalize ss[k]=s at c0 c1 c2 c3 c4 c5 he hf HE HX U Jf;generalize aK (ss.take k)=q at hq U;have⟨Jo,Jq⟩:=h2 he hf;obtain⟨a2,k2,rfl,-,-,-⟩:=he;obtain⟨a3,k3,rfl,-,-,-⟩:=hf;have Jv:=Jf.1;have Jw:=Jf.2;have⟨x0,x1,x2⟩:=mY I;go_wp2_with fail;go_quiet (fail)
    have Je:Below (w.heap.size+1) (w.alloc (.cells #[sV name,.slice ap ps.length cp,.slice (some ⟨b,Jk,none⟩) ss.length cb] 52)) (wr.drewN nq):=below_drewN I nq;have Ji:=aw Je;have Jj:Bl wr (wr.drewN nq):=below_drewN r_ nq;by_cases hs:2000<q+s.e.length+s.f.length
    ·go_wp2;go_ret;exact⟨ak (by rw[Jc.o,HY.o (by rw[U.o];omega)];simp),Ji⟩
    go_wp2_with fail;refine(Ah s _ _ _ o_ o_ (Jo.o.below Jj) (Jq.o.below Jj)).mono ?_;rintro e w2 ⟨rfl,Jg⟩;have Jb:=Je.trans (Jg.mono (by have:=Je.size;simp at this;simp;omega));cases hv:bH s
    ·go_wp2;go_ret;exact⟨ak (by rw[Jc.o,HX.o hv];simp),aw Jb⟩
    go_wp2;go_roundw
    case rel=>refine⟨k+1,o_,by go_num,?_,by rw[U.o];omega,λm hm=>?_,Jb⟩;rw[U.o];congr 1;rw[HE.o]at hm;rcases J5.1 hm with hm|hm;exact J m hm;rw[J7.1 hm];exact hv
    case measure=>exact IF
   have Js:Hid (stmtsB bH ss=true):=by show _=_;have Z:=J;rw[take_of_length_le o_]at Z hq;exact qI hq Z
   have Jt:Hid (jE ss):=by have Z:=J;rw[take_of_length_le o_]at Z;exact qi Z
   have⟨x0,x1,x2⟩:=mY I;go_wp2_with fail;refine(wW ss.length _ ss _ n_ Jn Jt (HS.o.below Ja)).mono ?_;rintro e w2 ⟨rfl,Jg⟩;go_wp2;go_ret;exact⟨ak (by rw[Jc.o,HA.o,Js.o];rfl),Ja.trans (Jg.mono Ja.size)⟩
section
variable{w w':AT}{b off:Nat}{gs:List Gl}{v:BY}{fs:List Fu}
def sC(w:AT)(b off:Nat)(gs:List Gl):Prop:=∀j (h:j<gs.length),w.cell? ⟨b,off+j*2,none⟩=some (sV gs[j].nm)/\w.cell? ⟨b,off+j*2+1,none⟩=some (V gs[j].size)
def sC.below(h:sC w b off gs)(J:Bl w w'):sC w' b off gs:=by intro j U;have⟨I,Z⟩:=h j U;have Ja:=b_ I;exact⟨(J.cell (p:=⟨b,off+j*2,none⟩) Ja).trans I,(J.cell (p:=⟨b,off+j*2+1,none⟩) Ja).trans Z⟩
def cD(w:AT)(v:BY)(gs:List Gl):Prop:=∃a cap,v=.slice a gs.length cap/\gs.length<=cap/\cap<=9223372036854775807/\(0<gs.length->∃b off,a=some ⟨b,off,none⟩/\sC w b off gs)
def cD.below(h:cD w v gs)(Z:Bl w w'):cD w' v gs:=by obtain⟨a,Jb,rfl,J,I,h⟩:=h;refine⟨a,Jb,rfl,J,I,λh0=>?_⟩;obtain⟨b,Ja,rfl,U⟩:=h h0;exact⟨b,Ja,rfl,U.below Z⟩
def sD(w:AT)(b off:Nat)(fs:List Fu):Prop:=∀j (h:j<fs.length),∃vp vb,(w.cell? ⟨b,off+j*3,none⟩=some (sV fs[j].nm)/\w.cell? ⟨b,off+j*3+1,none⟩=some vp/\w.cell? ⟨b,off+j*3+2,none⟩=some vb)/\be w vp fs[j].pm/\aZ w vb fs[j].bd
def sD.below(h:sD w b off fs)(I:Bl w w'):sD w' b off fs:=by intro j hj;have⟨vp,vb,⟨J,c1,U⟩,Z,hs⟩:=h j hj;have Ja:=b_ J;exact⟨vp,vb,⟨(I.cell (p:=⟨b,off+j*3,none⟩) Ja).trans J,(I.cell (p:=⟨b,off+j*3+1,none⟩) Ja).trans c1,(I.cell (p:=⟨b,off+j*3+2,none⟩) Ja).trans U⟩,Z.below I,hs.below I⟩
def bj(w:AT)(v:BY)(fs:List Fu):Prop:=∃a cap,v=.slice a fs.length cap/\fs.length<=cap/\cap<=9223372036854775807/\(0<fs.length->∃b off,a=some ⟨b,off,none⟩/\sD w b off fs)
def bj.below(h:bj w v fs)(Z:Bl w w'):bj w' v fs:=by obtain⟨a,Jb,rfl,J,I,h⟩:=h;refine⟨a,Jb,rfl,J,I,λh0=>?_⟩;obtain⟨b,Ja,rfl,U⟩:=h h0;exact⟨b,Ja,rfl,U.below Z⟩
def jc{t:JZ}{x y:BY}(h:Below (w.heap.size+1) (w.alloc (.cells #[x,y] t)) w'):
  w'.cell? ⟨w.heap.size,0,none⟩=some x/\w'.cell? ⟨w.heap.size,1,none⟩=some y:=by
 refine⟨?_,?_⟩ <;> (rw[h.cell i_];simp)
def Ak(g:Gl)(w:AT):Calls prog 83 #[.agg #[sV g.nm,V g.size]] w λe w'=>e=rW (.bool (dD g))/\Bl w w':=by
 obtain⟨s,z⟩:=g;simp only;go_in;go_wp2_with fail;refine(jW _ _).mono ?_;rintro e w1 ⟨rfl,Jb⟩;simp only[Bl,J9]at Jb;have Ja:=aw Jb;have⟨I,J⟩:=jc Jb;cases hn:bh s
 ·go_wp2;go_ret;exact⟨ak (by simp only[dD,hn,Bool.false_and]),Ja⟩
 by_cases h0:z<0
 ·go_wp2;go_ret;exact⟨ak (by simp only[dD,hn];simp;omega),Ja⟩
 go_wp2;go_ret;refine⟨ak ?_,Ja⟩;simp only[dD,hn,Bool.true_and];apply Bool.eq_iff_iff.2;simp <;> omega
def Al(t:Tr)(vg vf:BY)(w:AT)(hT:gF w)(ht:eQ t)(J:cD w vg t.gl)(hf:bj w vf t.fc):
  Calls prog 58 #[.agg #[vg,vf]] w λe w'=>e=rW (.bool (cM t))/\Bl w w':=by
 obtain⟨gs,fs⟩:=t;simp only at J hf⊢;have⟨HT,HS⟩:=h2 hT ht;have Jo:gs.length<=1048576:=HS.o.1;have Jn:fs.length<=1048576:=HS.o.2.1;obtain⟨ag,cg,rfl,-,-,Jk⟩:=J;obtain⟨af,cf,rfl,-,-,Ji⟩:=hf;have⟨Jm,Jl⟩:=h2 Jk Ji;by_cases h5:50<gs.length
 ·go_in;go_wp2;go_ret;exact⟨ak (by simp only[cM,decide_eq_false (show ¬gs.length<=50 by omega),Bool.false_and]),r_.alloc n_ _⟩
 by_cases h6:50<fs.length
 ·go_in;go_wp2;go_ret;exact⟨ak (by simp only[cM,decide_eq_false (show ¬fs.length<=50 by omega),Bool.false_and,Bool.and_false]),r_.alloc n_ _⟩
 have Jd:Hid (cM ⟨gs,fs⟩=(gs.all dD&&fs.all cC)):=by show _=_;simp only[cM,decide_eq_true (show gs.length<=50 by omega),decide_eq_true (show fs.length<=50 by omega),Bool.true_and]
 go_in;go_wp2;go_loopw[20] (λi wr=>∃k:Nat,k<=gs.length/\i=V k/\(∀g∈gs.take k,dD g=true)/\Below (w.heap.size+1) (w.alloc (.cells #[.slice ag gs.length cg,.slice af fs.length cf] 26)) wr) (λi _=>gs.length-(RowKit.intOf i).toNat)
 case atStart=>exact⟨0,y_,rfl,i_,r_⟩
 case round=>
  obtain⟨k,hk,rfl,J,I⟩:=hrel;have U:=ah J;have Ja:=aw I;by_cases hlt:k<gs.length
  ·obtain⟨b,Jh,rfl,hc⟩:=Jm o_;have⟨d0,d1⟩:=(hc.below Ja) k hlt;have HE:Hid (gs.take (k+1)=gs.take k++[gs[k]]):=aU gs k hlt;have Z:Hid (dD gs[k]=false->gs.all dD=false):=tT hlt;generalize gs[k]=g at d0 d1 HE Z;go_wp2_with fail;refine(Ak g _).mono ?_;rintro e w2 ⟨rfl,Jf⟩;have Jc:=(I.alloc (by have:=I.size;simp at this;omega) (.cells #[sV g.nm,V g.size] 48)).trans (Jf.mono (by have:=I.size;simp at this;simp;omega));cases hv:dD g
   ·go_wp2;go_ret;exact⟨ak (by rw[Jd.o,Z.o hv];rfl),aw Jc⟩
   go_wp2;go_roundw
   case rel=>refine⟨k+1,o_,by go_num,λm hm=>?_,Jc⟩;rw[HE.o]at hm;rcases J5.1 hm with hm|hm;exact U m hm;rw[J7.1 hm];exact hv
   case measure=>exact IF
  have HA:Hid (gs.all dD=true):=by show _=_;rw[all_eq_true];have:=U.o;rw[take_of_length_le o_]at this;exact this
  have⟨x0,x1⟩:=jc I;go_wp2;go_loopw[31] (λi wr=>∃k:Nat,k<=fs.length/\i=V k/\(∀f∈fs.take k,cC f=true)/\Below (w.heap.size+1) (w.alloc (.cells #[.slice ag gs.length cg,.slice af fs.length cf] 26)) wr) (λi _=>fs.length-(RowKit.intOf i).toNat)
  case atStart=>exact⟨0,y_,rfl,i_,I⟩
  case round=>
   obtain⟨k,hk,rfl,J,I⟩:=hrel;have U:=ah J;have Ja:=aw I;by_cases hlt:k<fs.length
   ·obtain⟨b,Jh,rfl,hc⟩:=Jl o_;have⟨vp,vb,⟨d0,d1,d2⟩,hp,hs⟩:=(hc.below Ja) k hlt;have HE:Hid (fs.take (k+1)=fs.take k++[fs[k]]):=aU fs k hlt;have Z:Hid (cC fs[k]=false->fs.all cC=false):=tU hlt;have Jg:Hid (fk fs[k]):=HS.o.2.2 fs[k] (g_ hlt);generalize fs[k]=f at d0 d1 d2 HE Z Jg hp hs;have⟨HP,HB⟩:=h2 hp hs;obtain⟨a2,k2,rfl,-,-,-⟩:=hp;obtain⟨a3,k3,rfl,-,-,-⟩:=hs;have Jb:Bl wr (wr.alloc (.cells #[sV f.nm,.slice a2 f.pm.length k2,.slice a3 f.bd.length k3] 52)):=ao _ _;go_wp2_with fail;refine(Ai f _ _ _ ((HT.o.below HT.o.size Ja).below (HT.o.below HT.o.size Ja).size Jb) Jg (HP.o.below Jb) (HB.o.below Jb)).mono ?_;rintro e w2 ⟨rfl,Jf⟩;have Je:=Jb.trans (Jf.mono Jb.size);have Jc:=I.trans (Je.mono (by have:=I.size;simp at this;omega));cases hv:cC f
    ·go_wp2;go_ret;exact⟨ak (by rw[Jd.o,Z.o hv];simp),aw Jc⟩
    go_wp2;go_roundw
    case rel=>refine⟨k+1,o_,by go_num,λm hm=>?_,Jc⟩;rw[HE.o]at hm;rcases J5.1 hm with hm|hm;exact U m hm;rw[J7.1 hm];exact hv
    case measure=>exact IF
   have Jj:Hid (fs.all cC=true):=by show _=_;rw[all_eq_true];have:=U.o;rw[take_of_length_le o_]at this;exact this
   go_wp2;go_ret;exact⟨ak (by rw[Jd.o,HA.o,Jj.o];rfl),Ja⟩
end
structure FV where
 f:Fu
 vp:BY
 vb:BY
 R:List SV
 kp:List Nat
 kb:List Nat
def aX(q:FV):List BY:=[sV q.f.nm,q.vp,q.vb]
def bD(Q:List FV):List BY:=Q.flatMap aX
def qo(q:FV):List Nat:=q.kp++(q.kb++dP q.R)
def kz(Q:List FV):List Nat:=Q.flatMap qo
theorem fC(Q:List FV):(bD Q).length=Q.length*3:=by
 induction Q with
 | nil=>rfl
 | cons a r ih=>
  have:(bD (a::r)).length=3+(bD r).length:=by simp[bD,aX];omega
  rw[this,ih,l_c];omega
def jd(a b:List FV):bD (a++b)=bD a++bD b:=by simp[bD]
def blkF_append(a b:List FV):kz (a++b)=kz a++kz b:=by simp[kz]
theorem fD:∀(Q:List FV) (j i:Nat) (hj:j<Q.length),i<3->(bD Q)[j*3+i]? =(aX Q[j])[i]?
 | x::l,0,i,_,hi=>by
  have:(aX x).length=3:=rfl
  show(aX x++bD l)[0*3+i]? =_;rw[getElem?_append_left o_];simp
 | x::l,j+1,i,hj,hi=>by have h7:(aX x).length=3:=rfl;show(aX x++bD l)[(j+1)*3+i]? =_;rw[getElem?_append_right o_];have e:(j+1)*3+i-(aX x).length=j*3+i:=o_;rw[e,fD l j i (IN hj) hi];simp
def jY:(prog.info? 52).map (λi=>(i.zero,i.size,i.bytes))=some (some (.agg #[sV ⟨#[]⟩,nV,nV]),3,64):=by kernel_rfl
end Go.Proofs.YtjfmapphpijneaaGreatDoor
