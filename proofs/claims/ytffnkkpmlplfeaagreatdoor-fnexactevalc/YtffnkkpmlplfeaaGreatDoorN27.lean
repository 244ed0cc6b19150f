import Derived.Test.YtffnkkpmlplfeaaGreatDoorN26
import Derived.Deep.Cut
namespace Go.Proofs.YtffnkkpmlplfeaaGreatDoor
open Go.Proofs.Tryz
open Go.RowKit
set_option linter.all false
set_option maxRecDepth 100000
set_option maxHeartbeats 16000000
variable[Inhabited Pick]
theorem stS_plain (C:RC) (hC:C.Ok) (n:Nat) (IH:ExS C n) (s:St) (a b:List St) (z:ES) (r:ER) (z':ES) (hE:Ev C.t C.fr (n+1) (.p s a b) z r z') (hk:s.kind≠3) (hk48:s.kind≠4/\s.kind≠5) (hKn:KnP C.t (z.l.map Prod.fst) s) (hsc:Scp C.t (z.l.map Prod.fst)) (h1:oneB s.e=true) (hl1:s.e.length<=1048576) (hou:(z.o.length:Int)+z.u+1<=C.F) (hlu:z.l.length+z.u+1<=200000)
  (w:World) (vl:Int) (lb:List Nat) (vL vI vO ve vf va vb:Value) (vt vu:Int) (h:RS C w 0 false vl lb vL vI vO z) (hNe:Nodes C.w0 ve s.e) (hfs : ∃fa fn fc,vf=.slice fa fn fc) (has : ∃fa fn fc,va=.slice fa fn fc) (hbs : ∃fa fn fc,vb=.slice fa fn fc) :
  Calls prog 99 #[.pointer (some ⟨C.P,0,none⟩),.agg #[.int .i64 s.kind,.string s.name,ve,vf,.int .i64 vt,.int .i64 vu],va,vb] w λx w'=>PaP C w lb vL vO r z' x w':=by
 obtain⟨ea,en,ec,rfl⟩ : ∃ea en ec,ve=.slice ea en ec:=⟨_,_,_,hNe.choose_spec.choose_spec.1⟩;obtain⟨fa,fn,fc,rfl⟩:=hfs;obtain⟨aa,an,ac,rfl⟩:=has;obtain⟨ba,bn,bc,rfl⟩:=hbs;obtain⟨sk,hsk⟩ : ∃sk,sk=s.kind:=⟨_,rfl⟩;rw[<-hsk];obtain⟨W,hW⟩ : ∃W,W=w.alloc (.cells #[.int .i64 sk,.string s.name,.slice ea en ec,.slice fa fn fc,.int .i64 vt,.int .i64 vu] 132):=⟨_,rfl⟩;obtain⟨B,hB⟩ : ∃B,B=w.heap.size:=⟨_,rfl⟩;have hbW:Bl w W:=by rw[hW];exact r_.alloc n_ _
 have hBW:B<W.heap.size:=by rw[hW,hB,World.size_alloc];omega
 have hfr:FrC W B [.int .i64 sk,.string s.name,.slice ea en ec,.slice fa fn fc,.int .i64 vt,.int .i64 vu]:=by
  rw[hW,hB];exact box_fr w #[.int .i64 sk,.string s.name,.slice ea en ec,.slice fa fn fc,.int .i64 vt,.int .i64 vu] _ (by show 6<=1000;omega)
 have hRW:=h.below hbW;have hT0 : ∀k,TEx C vO k->k<B:=λk hk=>by rw[hB];exact (TEx.lt h k hk).1
 have key : ∀(r1:ER) (z1:ES),Ev C.t C.fr n (.e s.e) z r1 z1->Calls prog 131 #[.pointer (some ⟨C.P,0,none⟩),.slice ea en ec] W λx w'=>ExP C W lb vL vO r1 z1 x w':=λr1 z1 h1'=>IH s.e z r1 z1 h1' hKn.e hsc h1 hl1 W vl lb vL vI vO _ hRW hNe;obtain⟨HO,HC,HKn,HSc,HB,HbW,HT0,HBW,HFr,HSk⟩:=h10 (λ(r1:ER) (z1:ES) (h':Ev C.t C.fr n (.e s.e) z r1 z1)=>And.intro (h'.inv h.ok trivial) h'.ou) hC hKn hsc hB hbW hT0 hBW hfr hsk;have g2:=(hfr 2 _ rfl).1;have HFin:Hid (∀(w':World) (r:ER) (z':ES) (vI' vO':Value) (vl':Int),RS C w' (stR r) (rtR r) vl' lb vL vI' vO' z'->(∀v,r=.ret v->vl'=v)->Tcs (TSx C lb vL vO) W w'->(∀k,vO'.ownBlock=some k->vO.ownBlock=some k∨W.heap.size<=k)->PaP C w lb vL vO r z' (.returned (.tuple #[])) w'):=λw' r z' vI' vO' vl' hR hv ht ho=>⟨⟨_,rfl⟩,lb,vL,vI',vO',vl',hR,hv,⟨[],by simp,λb hb=>by simp at hb⟩,(hbW.tcs (S:=TSx C lb vL vO)).next ht (λk hk=>.inl hk),λk hk=>(ho k hk).imp_right (λh1=>t_ hbW.size h1),λk hk=>.inl hk⟩;have HFinL:Hid (∀(w':World) (z':ES) (b':Nat) (vL' vI' vO':Value) (vl':Int),RS C w' 0 false vl' (lb++[b']) vL' vI' vO' z'->w.heap.size<=b'->Tcs (TSx C lb vL vO) W w'->(∀k,vO'.ownBlock=some k->vO.ownBlock=some k∨W.heap.size<=k)->(∀k,vL'.ownBlock=some k->vL.ownBlock=some k∨W.heap.size<=k)->PaP C w lb vL vO .on z' (.returned (.tuple #[])) w'):=λw' z' b' vL' vI' vO' vl' hR hb' ht ho hl=>⟨⟨_,rfl⟩,lb++[b'],vL',vI',vO',vl',hR,(λv hv=>by cases hv),⟨[b'],rfl,λb hb=>by simp at hb;omega⟩,(hbW.tcs (S:=TSx C lb vL vO)).next ht (λk hk=>.inl hk),λk hk=>(ho k hk).imp_right (λh1=>t_ hbW.size h1),λk hk=>(hl k hk).imp_right (λh1=>t_ hbW.size h1)⟩;have HFb:=hide hC.fu;obtain⟨HRS,HOu⟩:=h2 h (And.intro hou hlu);rcases ev_stmt hE hk with ⟨c,rfl,e1⟩|⟨v,z1,e1,hrest⟩
 ·have hc0:(c == 0)=false:=by rcases e1.outc c rfl with rfl|rfl <;> rfl
  have hc1:(c != 0)=true:=by rcases e1.outc c rfl with rfl|rfl <;> rfl
  have HCl:=hide (key _ _ e1);clear key HO HC HKn HSc hE hC hKn hsc IH h1 hl1 hNe hRW hT0 hfr h hbW e1 hk hk48 hsk HFinL hou hlu;go_enter func99,ntmps99;go_wp2_with fail;rw[<-hW,<-hB];clear hW hB;refine HCl.o.mono ?_;rintro x w1 ⟨z0,vI1,vO1,vl1,rfl,-,hR1,t1,ho1⟩;have y8:=(hR1.box 8 _ rfl).1;simp only[stR] at y8;have HF:=hide (HFin w1 (.out c) z' vI1 vO1 vl1 hR1 (λv hv=>by cases hv) ((Tcs.refl (TSx C lb vL vO) W).next t1 (TEx.up (λk hk=>.inl hk))) ho1);clear hR1 t1 ho1;go_wp2_with fail;exact bodyPost_ret (v:=.tuple #[]) (by simp[results,results99,go_sem]) rfl HF
 ·have HCl:=hide (key _ _ e1);obtain⟨⟨o1,v1,s1⟩,ou1⟩:=HO _ _ e1;have hz1:z1.l=z.l:=s1.2.2.2;obtain⟨HZ1,HV⟩:=h2 hz1 (v1 v (.inl rfl));have hou1:(z1.o.length:Int)+z1.u+1<=C.F:=by have:=ou1.2.1;simp only[Tk.d] at this;omega
  have hlu1:z1.l.length+1<=200000:=by have:=ou1.2.2;simp only[Tk.d] at this;omega
  have HOu1:=hide (And.intro hou1 hlu1);have hrest':((sk=1/\r=.on/\z' = {z1 with l:=z1.l++[(s.name,v)]})∨(sk=2/\r=.on/\z'=z1.wr C.t s.name v)∨(sk=6/\r=.ret v/\z'=z1)∨(sk=7/\r=.on/\z' = {z1 with o:=z1.o++[v]})∨(sk=8/\r=.on/\z'=z1)):=by
   rw[hsk];rcases hrest with h|h|h|h|h|⟨h,-⟩|⟨h,-⟩
   ·exact .inl h
   ·exact .inr (.inl h)
   ·exact .inr (.inr (.inl h))
   ·exact .inr (.inr (.inr (.inl h)))
   ·exact .inr (.inr (.inr (.inr h)))
   ·exact absurd h hk48.1
   ·exact absurd h hk48.2
  clear key HO hE hC hKn hsc IH h1 hl1 hNe hRW hT0 hfr h hbW e1 hk hk48 hsk hou hlu hou1 hlu1 ou1 o1 v1 s1 hz1 hrest;go_enter func99,ntmps99;go_wp2_with fail;rw[<-hW,<-hB];clear hW hB;refine HCl.o.mono ?_;rintro x w1 ⟨z0,vI1,vO1,vl1,rfl,hz,hR1,t1,ho1⟩;obtain rfl:v=z0:=(hz v rfl).symm;clear hz;have y8:=(hR1.box 8 _ rfl).1;simp only[stR] at y8 hR1;have hfr1:=HFr.o.tcs HBW t1 (λhx=>by have:=HT0.o _ hx;omega);have HT1:=hide ((Tcs.refl (TSx C lb vL vO) W).next t1 (TEx.up (λk hk=>.inl hk)));have hBs:B<w1.heap.size:=l_ HBW t1.size;have HW1:=hide t1.size;have g0:=(hfr1 0 _ rfl).1;have g1:=(hfr1 1 _ rfl).1;obtain⟨HFr1,HOw,HR1⟩:=h3 hfr1 ho1 hR1;have hup : ∀k,TEx C vO1 k->TSx C lb vL vO k∨W.heap.size<=k:=TEx.up ho1;have HUp:=hide hup;clear hR1 t1 ho1 hfr1 hup;rcases hrest' with ⟨rfl,rfl,rfl⟩|⟨rfl,rfl,rfl⟩|⟨rfl,rfl,rfl⟩|⟨rfl,rfl,rfl⟩|⟨rfl,rfl,rfl⟩
  ·go_upto_region 5 with fail;obtain⟨W2,hW2⟩ : ∃W2,W2=w1.drew:=⟨_,rfl⟩;have hb2:Bl w1 W2:=by rw[hW2];exact r_.drew
   have hR2:=HR1.o.below hb2;have hfr2:=HFr1.o.below hb2;obtain⟨W3,hW3⟩ : ∃W3,W3=W2.alloc (.cells #[.int .i64 v] 2):=⟨_,rfl⟩;obtain⟨W4,hW4⟩ : ∃W4,W4=W3.alloc (.cells #[.string s.name,.slice (some ⟨W2.heap.size,0,none⟩) 1 1] 65):=⟨_,rfl⟩;obtain⟨va,vn,vc,w5,r5,hR5,⟨x5,f5⟩,t5,t5',o5⟩:=decl_run s.name v hR2 (hW4.trans (by rw[hW3])) HOu1.o.2 HV;have hb3:Bl W2 W3:=by rw[hW3];exact r_.alloc n_ _
   have hb4:Bl W2 W4:=by rw[hW4];exact hb3.alloc hb3.size _
   have hz3:W3.heap.size=W2.heap.size+1:=by rw[hW3,World.size_alloc]
   have hBs2:B<W2.heap.size:=l_ hBs hb2.size;have hBP:B≠C.P:=λe=>by have:=HT0.o C.P (.inl rfl);omega
   have hBL:vL.ownBlock≠some B:=λe=>by have h1:=(World.ownsRow.lt HRS.o.lrow _ e).2;have:=HB.o;omega
   have hS2:W2.cell? ⟨C.P,3,none⟩=some vL/\W2.cell? ⟨B,1,none⟩=some (.string s.name):=⟨(hR2.box 3 _ rfl).1,(hfr2 1 _ rfl).1⟩;have HS3:Hid (W3.cell? ⟨C.P,3,none⟩=some vL/\W3.cell? ⟨B,1,none⟩=some (.string s.name)):=⟨((hR2.below hb3).box 3 _ rfl).1,((hfr2.below hb3) 1 _ rfl).1⟩;have HS4:Hid (W4.cell? ⟨C.P,3,none⟩=some vL/\W4.cell? ⟨B,1,none⟩=some (.string s.name)):=⟨((hR2.below hb4).box 3 _ rfl).1,((hfr2.below hb4) 1 _ rfl).1⟩;have HS5:Hid (w5.cell? ⟨C.P,3,none⟩=some vL/\w5.cell? ⟨B,1,none⟩=some (.string s.name)):=⟨x5,((hfr2.below hb4).tcs (l_ hBs2 hb4.size) t5 (λe=>e.elim hBP hBL) 1 _ rfl).1⟩;have HF:=hide (HFinL _ _ _ _ _ _ _ hR5 (by have:=HbW.o.size;have:=HW1.o;have:=hb2.size;omega) ((HT1.o.of_below hb2).next t5' (λk hk=>by
    rcases hk with hk|hk|hk
    ·exact HUp k hk
    ·exact .inl (.inr (.inl hk))
    ·exact .inl (.inr (.inr hk)))) HOw (λk hk=>(o5 k hk).imp_right (λh1=>by have:=HW1.o;have:=hb2.size;omega)))
   obtain⟨Hr5,HW2,HZ3,HW3,HW4⟩:=h5 r5 hW2 hz3 hW3 hW4;obtain⟨La,Lc,eL,-⟩:=own_shapeU hR2.lrow;subst eL;generalize hll:z1.l.length=ll at *;have HLl:=hide hll;clear hll;clear hR5 r5 t5 t5' o5 hb2 hb3 hb4 hR2 hfr2 hW4 hz3 hBL HFin HFinL HOw HUp HT1;clear hW2;have HS:=hide hS2;clear hS2;refine wp_region_E 14 (λX=>X.cell? ⟨C.P,3,none⟩=some (.slice La ll Lc)/\X.cell? ⟨B,1,none⟩=some (.string s.name)) k_ ?_;rw[<-HW2.o];refine tk 0 [12,13,14] HS ?_;refine tk 1 [2,3,4,11,14] HS ?_;refine tk 2 [3,4,11,14] HS ?_;refine tk 3 [4,11,14] HS ?_;refine tk 4 [11,14] HS ?_;refine tk 5 [6,9,10,11,14] HS ?_;refine tk 6 [9,10,11,14] HS ?_;refine tk 7 [8,9,10,11,14] HS ?_;clear HS;refine wpAnyE_one (i:=8) k_ rfl (λK hK => ?_);go_simp;rw[<-hW3];clear hW3;refine hK.out _ _ (λ_=>HS3) ?_;clear hK K;try simp only[Act.put,tA,tB,tC]
   have HS:=HS3;refine tk 9 [10,11,14] HS ?_;clear HS;refine wpAnyE_one (i:=10) k_ rfl (λK hK => ?_);go_simp;rw[<-HW4.o,HZ3.o];refine hK.out _ _ (λ_=>HS4) ?_;clear hK K;try simp only[Act.put,tA,tB,tC]
   refine wpAnyE_one (i:=11) k_ rfl (λK hK => ?_);refine step_appR rfl (.tmp 26) (.tmp 32) 59 rfl (.slice La ll Lc) (.slice (some ⟨W2.heap.size+1,0,none⟩) 1 1) (.slice va vn vc) w5 rfl rfl Hr5 ?_;refine hK.out _ _ (λ_=>HS5) ?_;clear hK K;try simp only[Act.put,tA,tB,tC]
   have HS:=HS5;refine tk 12 [13,14] HS ?_;refine tk 13 [14] HS ?_;clear HS;refine wpAnyE_one (i:=14) k_ rfl (λK hK => ?_);go_simp;refine hK.out _ _ (λh=>absurd rfl h) ?_;clear hK K;refine wpAnyE_done k_ ?_ _;go_wp2_with fail;rw[HLl.o];exact bodyPost_end (v:=.tuple #[]) (by simp[results,results99,go_sem]) rfl HF
  ·go_wp2_with fail;have hks:=HKn.o.set HSk.o.symm;have hnd:(z1.l.map Prod.fst).Nodup:=by rw[HZ1.o];exact HSc.o.1
   refine (find_any s.name HR1 HC hnd).mono ?_;rintro x w3 ⟨vv,rfl,hF,hb3⟩;have hks':s.name∈z1.l.map Prod.fst∨(s.name∉z1.l.map Prod.fst/\0<=globI C.t.globals s.name):=by
    rw[HZ1.o];exact hks.imp_right (λh=>⟨h.1,by omega⟩)
   obtain⟨bw,nw,hvv,hn0,hn1,hbl,hcb,hfb,hbm⟩:=find_word HR1 HC hF hnd hks';have hR3:=HR1.o.below hb3;have hSt:=hR3.wr HC hF hks' hvv HV;subst hvv;have hck:=(hb3.cell (p:=⟨bw,0,none⟩) hbl).trans hcb;have hfk:=(hb3.frozen (p:=⟨bw,0,none⟩) hbl).trans hfb;have HF:=hide (HFin _ .on _ vI1 vO1 vl1 hSt (λv hv=>by cases hv) ((HT1.o.of_below hb3).setCell (p:=⟨bw,0,none⟩) (by rcases hbm with h|h;exact .inl (.inr (.inl h));exact .inr (.inl h)) _) HOw);generalize z1.rd C.t s.name=q at hck;have hnw:(0:Int)<(nw:Int):=by omega
   clear hSt hR3 hF hks' hb3 hcb hfb hks hnd;go_wp2_with fail;exact bodyPost_end (v:=.tuple #[]) (by simp[results,results99,go_sem]) rfl HF
  ·have y9:=(HR1.o.box 9 _ rfl).1;have f9:=(HR1.o.box 9 _ rfl).2;have y10:=(HR1.o.box 10 _ rfl).1;have f10:=(HR1.o.box 10 _ rfl).2;have HF:=hide (HFin _ (.ret v) z' vI1 vO1 v (HR1.o.retd v) (λv hv=>by cases hv;rfl) ((HT1.o.setCell (p:=⟨C.P,9,none⟩) (.inl (.inl rfl)) _).setCell (p:=⟨C.P,10,none⟩) (.inl (.inl rfl)) _) HOw);go_wp2_with fail;exact bodyPost_end (v:=.tuple #[]) (by simp[results,results99,go_sem]) rfl HF
  ·obtain⟨va,vn,vc,w3,r3,hR3,⟨x5,f5⟩,t3,o3⟩:=tell_run v HR1 HOu1.o.1 HFb.o.2;have HF:=hide (HFin _ .on _ vI1 _ vl1 hR3 (λv hv=>by cases hv) (HT1.o.next t3 HUp) (λk hk=>by
    rcases o3 k hk with h1|h1
    ·exact HOw k h1
    ·exact .inr (t_ HW1 h1)))
   have y5:=(HR1.o.box 5 _ rfl).1;obtain⟨Oa,Oc,eO,-⟩:=own_shapeU HR1.o.out;subst eO;generalize z1.o.length=ol at *;have Hr3:=hide r3;clear r3 hR3 t3 o3 HUp HOw HT1 HFin;go_wp2_with (at_builtin;refine wpList_appG rfl (.tmp 59) (.tmp 61) _ rfl _ _ _ _ rfl rfl Hr3 ?_)
   exact bodyPost_end (v:=.tuple #[]) (by simp[results,results99,go_sem]) rfl HF
  ·have HF:=hide (HFin _ .on z' vI1 vO1 vl1 HR1 (λv hv=>by cases hv) HT1 HOw);go_wp2_with fail;exact bodyPost_end (v:=.tuple #[]) (by simp[results,results99,go_sem]) rfl HF
section
variable {x:Int}
def inBb (x:Int):Bool:=decide (-2147483648<=x/\x<=2147483647)
theorem w32_in (h:inBb x=true):wrap32 x=x:=by
 simp only[inBb,decide_eq_true_eq] at h;unfold wrap32;omega
theorem w32_out (h:inBb x=false):x≠wrap32 x:=by
 simp only[inBb,decide_eq_false_iff_not] at h;intro e;apply h;rw[e];unfold wrap32;omega
theorem wordsG_any (v:Value) (l:List Int) (w:World) (hv:InN w v l) (hl:l.length<=1048576):Calls prog 29 #[v] w λe w'=>e=.returned (.bool (l.all inBb))/\Below w.heap.size w w':=by
 obtain⟨a,c,rfl,h1,h2,h3⟩:=hv;have HA:=hide h3;clear h3;obtain⟨n,hn⟩ : ∃n,n=l.length:=⟨_,rfl⟩;rw[<-hn] at h1 hl ⊢;have HN:=hide hn;clear hn;obtain⟨r,hr⟩ : ∃r,r=l.all inBb:=⟨_,rfl⟩;rw[<-hr];have HR:=hide hr;clear hr;go_enter func29,ntmps29;go_wp2;go_loopw [3] (λi wr=>∃k:Nat,k<=n/\i=.int .i64 (k:Int)/\(l.take k).all inBb=true/\Bl w wr) (λi _=>n-(RowKit.intOf i).toNat)
 case atStart=>exact⟨0,y_,rfl,rfl,r_⟩
 case round=>
  obtain⟨k,hk,rfl,ha,hB⟩:=hrel;have HB:=hide hB;have HAl:=hide ha;clear ha hB;by_cases hlt:k<n
  ·have hki:(k:Int)<(n:Int):=by omega
   have hkl:k<l.length:=by rw[<-HN.o];exact hlt
   obtain⟨b,off,rfl,hc⟩:=HA o_;have hck:=hc k hkl;have hbw:b<w.heap.size:=b_ hck;obtain⟨x,hx⟩ : ∃x,x=l[k]:=⟨_,rfl⟩;rw[<-hx] at hck;have HX:=hide hx;clear hx hc;go_upto_region 4 with fail;obtain⟨W3,hW3⟩ : ∃W3,W3=wr.drew:=⟨_,rfl⟩;have hb3:Bl w W3:=by rw[hW3];exact HB.o.drew
   have HS:=hide ((hb3.cell (p:=⟨b,off+k,none⟩) hbw).trans hck);have HB3:=hide hb3;have HW3:=hide hW3;clear hb3 hW3 hck;refine wp_region_E 9 (λX=>X.cell? ⟨b,off+k,none⟩=some (.int .i64 x)) k_ ?_;rw[<-HW3.o];refine tk 0 [2,3,9] HS ?_;refine tk 1 [2,3,9] HS ?_;refine tk 2 [3,9] HS ?_;refine tk 3 [9] HS ?_;refine tk 4 [6,7,8,9] HS ?_;refine tk 5 [6,7,8,9] HS ?_;refine tk 6 [7,8,9] HS ?_;refine tk 7 [8,9] HS ?_;refine wpAnyE_one (i:=8) k_ rfl (λK hK => ?_);go_simp;refine (wrap_any x W3).mono ?_;rintro e w4 ⟨rfl,hw4⟩;rw[hw4];clear hw4;refine hK.out _ _ (λ_=>HS) ?_;clear hK K;try simp only[Act.put,tA,tB,tC]
   by_cases hb:inBb x=true
   ·have e1:=w32_in hb;rw[e1];clear e1;have HTk:Hid ((l.take (k+1)).all inBb=true):=by show _=_;rw[List.take_succ_eq_append_getElem hkl,List.all_append,HAl.o];simp[<-HX.o,hb]
    clear hb;refine wpAnyE_one (i:=9) k_ rfl (λK hK => ?_);go_simp;refine hK.out _ _ (λh=>absurd rfl h) ?_;clear hK K;refine wpAnyE_done k_ ?_ _;go_wp2;go_roundw
    case rel=>exact⟨k+1,by omega,by go_num,HTk,HB3⟩
    case measure=>simp[RowKit.intOf];omega
   ·have hb0:inBb x=false:=by simpa using hb
    have e1:=w32_out hb0;have HRf:Hid (r=false):=by
     show _=_;rw[HR.o,List.all_eq_false];exact⟨l[k],g_ hkl,by rw[<-HX.o,hb0];simp⟩
    have e2:(x != wrap32 x)=true:=by simpa using e1
    generalize wrap32 x=y at e1 e2;clear hb hb0;refine wpAnyE_one (i:=9) k_ rfl (λK hK => ?_);go_simp;refine hK.out _ _ (λh=>absurd rfl h) ?_;clear hK K;refine wpAnyE_done k_ ?_ _;go_wp2;go_ret;exact⟨ret_bool HRf.o.symm,HB3⟩
  ·have hki : ¬(k:Int)<(n:Int):=by omega
   have HRt:Hid (r=true):=by
    show _=_;have:=HAl.o
    rw[List.take_of_length_le (by have:=HN.o;omega)] at this;rw[HR.o,this]
   go_wp2;go_ret;exact⟨ret_bool HRt.o.symm,HB⟩
end
def frB (x:Int):Bool:=decide (0<=x/\x<=1000000)
theorem fld_errE (x y z:Int) (W:World):(Instr.field 52 (.agg #[.int .i64 x,.int .i64 y,.int .i64 z]) 0).run prog W=.ok (.int .i64 x) W:=by kernel_rfl
theorem zero_end {w X:World} {M:Nat} (hm:FrC X M [.int .i64 0,.slice none 0 0,.int .i64 0,.int .i64 0,.int .i64 0]) (hb:Below w.heap.size w X) (hM:w.heap.size<=M) {X':World} (hX:X'=((((X.setCell ⟨M,0,none⟩ (.int .i64 0)).setCell ⟨M,1,none⟩ (.slice none 0 0)).setCell ⟨M,2,none⟩ (.int .i64 0)).setCell ⟨M,3,none⟩ (.int .i64 0)).setCell ⟨M,4,none⟩ (.int .i64 0)) :
  (X'.cell? ⟨M,0,none⟩=some (.int .i64 0)/\X'.cell? ⟨M,1,none⟩=some (.slice none 0 0)/\X'.cell? ⟨M,2,none⟩=some (.int .i64 0)/\X'.cell? ⟨M,3,none⟩=some (.int .i64 0)/\X'.cell? ⟨M,4,none⟩=some (.int .i64 0))/\Below w.heap.size w X':=by
 subst hX;have h:=((((hm.set 0 (.int .i64 0)).set 1 (.slice none 0 0)).set 2 (.int .i64 0)).set 3 (.int .i64 0)).set 4 (.int .i64 0);exact⟨⟨(h 0 _ rfl).1,(h 1 _ rfl).1,(h 2 _ rfl).1,(h 3 _ rfl).1,(h 4 _ rfl).1⟩,((((hb.setCell (p:=⟨M,0,none⟩) hM _).setCell (p:=⟨M,1,none⟩) hM _).setCell (p:=⟨M,2,none⟩) hM _).setCell (p:=⟨M,3,none⟩) hM _).setCell (p:=⟨M,4,none⟩) hM _⟩
def zeroE:Value:=.agg #[.int .i64 0,.slice none 0 0,.int .i64 0,.int .i64 0,.int .i64 0]
theorem evalG_no (t:Tr) (vg vf vI vFr:Value) (i fr:List Int) (F:Int) (w:World) (hck : ∀X,Below w.heap.size w X->Calls prog 24 #[.agg #[vg,vf]] X λe w'=>(∃x y,e=.returned (.agg #[.int .i64 (checkE t).1,.int .i64 x,.int .i64 y]))/\Below X.heap.size X w') (hg:Globs w vg t.globals) (hf:Funcs w vf t.funcs) (hI:InN w vI i) (hFr:InN w vFr fr) (hil:i.length<=1048576) (hfl:fr.length<=1048576) (hfs:t.funcs.length<=1048576)
  (hno:(checkE t).1≠0∨1000<i.length∨i.all inBb=false∨¬(0<=F/\F<=100000)∨fr.length≠t.funcs.length) :
  Calls prog 7 #[.agg #[vg,vf],vI,.int .i64 F,vFr] w λe w'=>e=.returned zeroE/\Below w.heap.size w w':=by
 have HCk:=hide hck;have HI:=hide hI;have HNo:=hide hno;obtain⟨ag,cg,rfl,-⟩:=hg;obtain⟨af,cf,rfl,-⟩:=hf;obtain⟨ai,ci,rfl,hi1,hi2,-⟩:=hI;obtain⟨ar,cr,rfl,hr1,hr2,-⟩:=hFr;obtain⟨W1,hW1⟩ : ∃W1,W1=(w.alloc (.cells #[.slice ag t.globals.length cg,.slice af t.funcs.length cf] 34)).alloc (.cells #[.int .i64 0,.slice none 0 0,.int .i64 0,.int .i64 0,.int .i64 0] 29):=⟨_,rfl⟩;have hb1:Bl w W1:=by rw[hW1];exact (bel_a _ _).alloc (by simp) _
 have HB1:=hide hb1;clear hck hno hb1;go_enter func7,ntmps7;go_wp2_with fail;rw[<-hW1];have hz1:W1.heap.size=w.heap.size+2:=by rw[hW1,World.size_alloc,World.size_alloc]
 have hfr:FrC W1 (w.heap.size+1) [.int .i64 0,.slice none 0 0,.int .i64 0,.int .i64 0,.int .i64 0]:=by
  rw[hW1];have:=box_fr (w.alloc (.cells #[.slice ag t.globals.length cg,.slice af t.funcs.length cf] 34)) #[.int .i64 0,.slice none 0 0,.int .i64 0,.int .i64 0,.int .i64 0] 29 (by decide)
  rw[World.size_alloc] at this;exact this
 have hft:FrC W1 w.heap.size [.slice ag t.globals.length cg,.slice af t.funcs.length cf]:=by
  rw[hW1];exact (box_fr w #[.slice ag t.globals.length cg,.slice af t.funcs.length cf] 34 (by show 2<=1000;omega)).below (bel_a _ _)
 have HFr:=hide hfr;have HFt:=hide hft;clear hW1 hfr hft;obtain⟨M,hM⟩ : ∃M,M=w.heap.size:=⟨_,rfl⟩;rw[<-hM] at HFr HFt hz1 ⊢;have HM:=hide hM;clear hM;refine (HCk W1 HB1).mono ?_;rintro e w2 ⟨⟨x,y,rfl⟩,hb2⟩;have hfr2:=HFr.o.below hb2;have hft2:=HFt.o.below hb2;have y0:=(hfr2 0 _ rfl).1;have z0:=(hfr2 0 _ rfl).2;have y1:=(hfr2 1 _ rfl).1;have z1:=(hfr2 1 _ rfl).2;have y2:=(hfr2 2 _ rfl).1;have z2:=(hfr2 2 _ rfl).2;have y3:=(hfr2 3 _ rfl).1;have z3:=(hfr2 3 _ rfl).2;have y4:=(hfr2 4 _ rfl).1;have z4:=(hfr2 4 _ rfl).2;have HF5:=hide hfr2;have hbw2:Bl w w2:=HB1.o.trans (hb2.mono HB1.o.size);have HB2:=hide hbw2;have hN:=HNo;have hfe:=fld_errE;generalize hck:(checkE t).1=ck at *;have HFt2:=hide hft2;have Hfr2:=hide hfr2;clear hfr2 hft2 hb2 hbw2;by_cases h0:ck=0
 ·subst h0;have hft:=HFt2;have x1:=(hft 1 _ rfl).1;by_cases h1:1000<i.length
  ·have h1':(1000:Int)<(i.length:Int):=by omega
   clear hN HNo;go_wp2_with fail;obtain⟨⟨t0,t1,t2,t3,t4⟩,hE⟩:=zero_end HF5 HB2 (by have:=HM.o;omega) rfl;exact bodyPost_ret (v:=zeroE) (by simp[results,results7,go_sem,t0,t1,t2,t3,t4,zeroE]) rfl ⟨rfl,hE⟩
  ·have h1' : ¬(1000:Int)<(i.length:Int):=by omega
   go_wp2_with fail;have hw2:Bl w w2:=HB2;refine (wordsG_any _ i w2 ⟨ai,ci,rfl,hi1,hi2,?_⟩ hil).mono ?_
   ·intro hpos;obtain⟨a',c',e',-,-,h3⟩:=HI;simp only[Value.slice.injEq] at e';obtain⟨rfl,-,rfl⟩:=e';obtain⟨b,off,rfl,hc⟩:=h3 hpos;exact⟨b,off,rfl,λj hj=>(hw2.cell (p:=⟨b,_,none⟩) (b_ (hc j hj))).trans (hc j hj)⟩
   rintro e w3 ⟨rfl,hb3⟩;have hf3:=Hfr2.o.below hb3;have hg3:=HFt2.o.below hb3;have HB3:=hide (HB2.o.trans (hb3.mono HB2.o.size));clear x1 y0 y1 y2 y3 y4 z0 z1 z2 z3 z4 hw2;have x1:=(hg3 1 _ rfl).1;have y0:=(hf3 0 _ rfl).1;have z0:=(hf3 0 _ rfl).2;have y1:=(hf3 1 _ rfl).1;have z1:=(hf3 1 _ rfl).2;have y2:=(hf3 2 _ rfl).1;have z2:=(hf3 2 _ rfl).2;have y3:=(hf3 3 _ rfl).1;have z3:=(hf3 3 _ rfl).2;have y4:=(hf3 4 _ rfl).1;have z4:=(hf3 4 _ rfl).2;have HF6:=hide hf3;clear hf3 hg3 hb3 hft;cases hwd:i.all inBb with
   | false=>
    clear hN HNo;go_wp2_with fail;obtain⟨⟨t0,t1,t2,t3,t4⟩,hE⟩:=zero_end HF6 HB3 (by have:=HM.o;omega) rfl;exact bodyPost_ret (v:=zeroE) (by simp[results,results7,go_sem,t0,t1,t2,t3,t4,zeroE]) rfl ⟨rfl,hE⟩
   | true=>
    go_wp2_with fail;refine (in_any _ _ _ _).mono ?_;rintro e w4 ⟨rfl,hw4⟩;rw[hw4];clear hw4;by_cases hF:0<=F/\F<=100000
    ·have hdec:decide ((0:Int)<=F/\F<=100000)=true:=decide_eq_true hF;rw[hdec];have hne:fr.length≠t.funcs.length:=by
      rcases hN with h|h|h|h|h
      ·exact absurd rfl h
      ·exact absurd h h1
      ·rw[hwd] at h;cases h
      ·exact absurd hF h
      ·exact h
     have hne':((fr.length:Int) != (t.funcs.length:Int))=true:=by simp;omega
     clear hN HNo hdec hwd;generalize fr.length=fl at *;generalize t.funcs.length=tl at *;go_wp2_with fail;obtain⟨⟨t0,t1,t2,t3,t4⟩,hE⟩:=zero_end HF6 HB3 (by have:=HM.o;omega) rfl;exact bodyPost_ret (v:=zeroE) (by simp[results,results7,go_sem,t0,t1,t2,t3,t4,zeroE]) rfl ⟨rfl,hE⟩
    ·have hdec:decide ((0:Int)<=F/\F<=100000)=false:=decide_eq_false hF;rw[hdec];clear hN HNo;go_wp2_with fail;obtain⟨⟨t0,t1,t2,t3,t4⟩,hE⟩:=zero_end HF6 HB3 (by have:=HM.o;omega) rfl;exact bodyPost_ret (v:=zeroE) (by simp[results,results7,go_sem,t0,t1,t2,t3,t4,zeroE]) rfl ⟨rfl,hE⟩
 ·have h0':(ck != 0)=true:=by simpa using h0
  clear hN HNo;go_wp2_with fail;obtain⟨⟨t0,t1,t2,t3,t4⟩,hE⟩:=zero_end HF5 HB2 (by have:=HM.o;omega) rfl;exact bodyPost_ret (v:=zeroE) (by simp[results,results7,go_sem,t0,t1,t2,t3,t4,zeroE]) rfl ⟨rfl,hE⟩
theorem evalG_fr (t:Tr) (vg vf vI vFr:Value) (i fr:List Int) (F:Int) (w:World) (hck : ∀X,Below w.heap.size w X->Calls prog 24 #[.agg #[vg,vf]] X λe w'=>(∃x y,e=.returned (.agg #[.int .i64 (checkE t).1,.int .i64 x,.int .i64 y]))/\Below X.heap.size X w') (hg:Globs w vg t.globals) (hf:Funcs w vf t.funcs) (hI:InN w vI i) (hFr:InN w vFr fr) (hil:i.length<=1048576) (hfl:fr.length<=1048576) (hfs:t.funcs.length<=1048576)
  (hck0:(checkE t).1=0) (hi0:i.length<=1000) (hw0:i.all inBb=true) (hF:0<=F/\F<=100000) (hfe2:fr.length=t.funcs.length) (hbad:fr.all frB=false) :
  Calls prog 7 #[.agg #[vg,vf],vI,.int .i64 F,vFr] w λe w'=>e=.returned zeroE/\Below w.heap.size w w':=by
 obtain⟨HCk,HI,HFr0,HBad⟩:=h4 hck hI hFr hbad;obtain⟨ag,cg,rfl,-⟩:=hg;obtain⟨af,cf,rfl,-⟩:=hf;obtain⟨ai,ci,rfl,hi1,hi2,-⟩:=hI;obtain⟨ar,cr,rfl,hr1,hr2,-⟩:=hFr;obtain⟨W1,hW1⟩ : ∃W1,W1=(w.alloc (.cells #[.slice ag t.globals.length cg,.slice af t.funcs.length cf] 34)).alloc (.cells #[.int .i64 0,.slice none 0 0,.int .i64 0,.int .i64 0,.int .i64 0] 29):=⟨_,rfl⟩;have hb1:Bl w W1:=by rw[hW1];exact (bel_a _ _).alloc (by simp) _
 have HB1:=hide hb1;clear hck hb1 hbad;go_enter func7,ntmps7;go_wp2_with fail;rw[<-hW1];have hz1:W1.heap.size=w.heap.size+2:=by rw[hW1,World.size_alloc,World.size_alloc]
 have hfr:FrC W1 (w.heap.size+1) [.int .i64 0,.slice none 0 0,.int .i64 0,.int .i64 0,.int .i64 0]:=by
  rw[hW1];have:=box_fr (w.alloc (.cells #[.slice ag t.globals.length cg,.slice af t.funcs.length cf] 34)) #[.int .i64 0,.slice none 0 0,.int .i64 0,.int .i64 0,.int .i64 0] 29 (by decide)
  rw[World.size_alloc] at this;exact this
 have hft:FrC W1 w.heap.size [.slice ag t.globals.length cg,.slice af t.funcs.length cf]:=by
  rw[hW1];exact (box_fr w #[.slice ag t.globals.length cg,.slice af t.funcs.length cf] 34 (by show 2<=1000;omega)).below (bel_a _ _)
 obtain⟨HFr,HFt⟩:=h2 hfr hft;clear hW1 hfr hft;obtain⟨M,hM⟩ : ∃M,M=w.heap.size:=⟨_,rfl⟩;rw[<-hM] at HFr HFt hz1 ⊢;have HM:=hide hM;clear hM;refine (HCk W1 HB1).mono ?_;rintro e w2 ⟨⟨x,y,rfl⟩,hb2⟩;have hfr2:=HFr.o.below hb2;have hft2:=HFt.o.below hb2;have y0:=(hfr2 0 _ rfl).1;have z0:=(hfr2 0 _ rfl).2;have y1:=(hfr2 1 _ rfl).1;have z1:=(hfr2 1 _ rfl).2;have y2:=(hfr2 2 _ rfl).1;have z2:=(hfr2 2 _ rfl).2;have y3:=(hfr2 3 _ rfl).1;have z3:=(hfr2 3 _ rfl).2;have y4:=(hfr2 4 _ rfl).1;have z4:=(hfr2 4 _ rfl).2;have hbw2:Bl w w2:=HB1.o.trans (hb2.mono HB1.o.size);have HB2:=hide hbw2;have hfe:=fld_errE;rw[hck0];obtain⟨HFt2,Hfr2⟩:=h2 hft2 hfr2;clear hfr2 hft2 hb2 hbw2;have hft:=HFt2;have x1:=(hft 1 _ rfl).1;have h1' : ¬(1000:Int)<(i.length:Int):=by omega
 go_wp2_with fail;have hw2:Bl w w2:=HB2;refine (wordsG_any _ i w2 ⟨ai,ci,rfl,hi1,hi2,?_⟩ hil).mono ?_
 ·intro hpos;obtain⟨a',c',e',-,-,h3⟩:=HI;simp only[Value.slice.injEq] at e';obtain⟨rfl,-,rfl⟩:=e';obtain⟨b,off,rfl,hc⟩:=h3 hpos;exact⟨b,off,rfl,λj hj=>(hw2.cell (p:=⟨b,_,none⟩) (b_ (hc j hj))).trans (hc j hj)⟩
 rintro e w3 ⟨rfl,hb3⟩;have hf3:=Hfr2.o.below hb3;have hg3:=HFt2.o.below hb3;have HB3:=hide (HB2.o.trans (hb3.mono HB2.o.size));clear x1 y0 y1 y2 y3 y4 z0 z1 z2 z3 z4 hw2;have x1:=(hg3 1 _ rfl).1;have y0:=(hf3 0 _ rfl).1;have z0:=(hf3 0 _ rfl).2;have y1:=(hf3 1 _ rfl).1;have z1:=(hf3 1 _ rfl).2;have y2:=(hf3 2 _ rfl).1;have z2:=(hf3 2 _ rfl).2;have y3:=(hf3 3 _ rfl).1;have z3:=(hf3 3 _ rfl).2;have y4:=(hf3 4 _ rfl).1;have z4:=(hf3 4 _ rfl).2;have HF6:=hide hf3;clear hf3 hg3 hb3 hft;rw[hw0];go_wp2_with fail;refine (in_any _ _ _ _).mono ?_;rintro e w4 ⟨rfl,hw4⟩;rw[hw4];clear hw4;have hdec:decide ((0:Int)<=F/\F<=100000)=true:=decide_eq_true hF;rw[hdec];clear hdec;obtain⟨fl,hfle⟩ : ∃fl,fl=fr.length:=⟨_,rfl⟩;have HFl:=hide hfle;rw[<-hfe2] at x1 ⊢;rw[<-hfle] at x1 hfl hr1 ⊢;have hne':((fl:Int) != (fl:Int))=false:=by simp
 clear hfle hfe2;go_wp2;go_loopw [9] (λj wr=>∃k:Nat,k<=fl/\j=.int .i64 (k:Int)/\(fr.take k).all frB=true/\wr=w3) (λj _=>fl-(RowKit.intOf j).toNat)
 case atStart=>exact⟨0,y_,rfl,rfl,rfl⟩
 case round=>
  obtain⟨k,hk,rfl,ha,hwr⟩:=hrel;rw[hwr];clear hwr;have HAl:=hide ha;clear ha;by_cases hlt:k<fl
  ·have hki:(k:Int)<(fl:Int):=by omega
   have hkl:k<fr.length:=by rw[<-HFl.o];exact hlt
   obtain⟨a',c',e',-,-,h3⟩:=HFr0;simp only[Value.slice.injEq] at e';obtain⟨rfl,-,rfl⟩:=e';obtain⟨b,off,rfl,hc⟩:=h3 o_;have hck:=(HB3.o.cell (p:=⟨b,_,none⟩) (b_ (hc k hkl))).trans (hc k hkl);obtain⟨x',hx⟩ : ∃x',x'=fr[k]:=⟨_,rfl⟩;rw[<-hx] at hck;have HX:=hide hx;clear hx hc h3;go_wp2_with fail;refine (in_any _ _ _ _).mono ?_;rintro e w4 ⟨rfl,hw4⟩;rw[hw4];clear hw4;by_cases hb:0<=x'/\x'<=1000000
   ·have hdec:decide ((0:Int)<=x'/\x'<=1000000)=true:=decide_eq_true hb;rw[hdec];have HTk:Hid ((fr.take (k+1)).all frB=true):=by show _=_;rw[List.take_succ_eq_append_getElem hkl,List.all_append,HAl.o];simp[<-HX.o,frB,hb]
    clear hdec hb;go_wp2;go_roundw
    case rel=>exact⟨k+1,by omega,by go_num,HTk,trivial⟩
    case measure=>simp[RowKit.intOf];omega
   ·have hdec:decide ((0:Int)<=x'/\x'<=1000000)=false:=decide_eq_false hb;rw[hdec];clear hdec hb;go_wp2_with fail;obtain⟨⟨t0,t1,t2,t3,t4⟩,hE⟩:=zero_end HF6 HB3 (by have:=HM.o;omega) rfl;exact bodyPost_ret (v:=zeroE) (by simp[results,results7,go_sem,t0,t1,t2,t3,t4,zeroE]) rfl ⟨rfl,hE⟩
  ·exfalso
   have:=HAl.o
   rw[List.take_of_length_le (by have:=HFl.o;omega)] at this;have hb:=HBad;rw[this] at hb;cases hb
section
variable {s:ES} {C:RC} {lb:List Nat} {vL vO vI:Value} {w:World} {st vl:Int} {rt:Bool}
structure OkB (t:Tr) (sc:List ByteArray) (ss:List St):Prop where
 snd:Snd t ss sc
 ok : ∀s∈ss,stmtB s=true/\s.e.length<=1048576/\s.f.length<=1048576
 fit:fitB ss=true
 ln:ss.length<=1000000
def BlP (C:RC) (w:World) (lb:List Nat) (vL vO:Value) (r:ER) (s':ES) (x:Ending) (w':World):Prop:=(∃y,x=.returned y)/\∃vL' vI' vO' vl',RS C w' (stR r) (rtR r) vl' lb vL' vI' vO' s'/\(∀v,r=.ret v->vl'=v)/\Tcs (TSx C lb vL vO) w w'/\(∀k,vO'.ownBlock=some k->vO.ownBlock=some k∨w.heap.size<=k)/\∀k,vL'.ownBlock=some k->vL.ownBlock=some k∨w.heap.size<=k
def BlS (C:RC) (n:Nat):Prop:=∀(ss:List St) (z:ES) (r:ER) (z':ES),Ev C.t C.fr n (.bl ss) z r z'->OkB C.t (z.l.map Prod.fst) ss->Scp C.t (z.l.map Prod.fst)->z.l.length+z.u<=200000->∀(w:World) (vl:Int) (lb:List Nat) (vL vI vO vs:Value),RS C w 0 false vl lb vL vI vO z->Stmts C.w0 vs ss->Calls prog 63 #[.pointer (some ⟨C.P,0,none⟩),vs] w λx w'=>BlP C w lb vL vO r z' x w'
def Tk.va:Tk->Bool
 | .inl _ =>true
 | .inr (.inr (.inr (.inr (_, _)))) =>true
 | _=>false
theorem Ev.nov {t:Tr} {fr:List Int} {n:Nat} {k:Tk} {r:ER} {s':ES} (h:Ev t fr n k s r s'):k.va=false->∀v,r ≠ .val v:=by
 induction h using Ev_i with
 | kid n e A b st v j c s' h1 h2 h3 h4 h5 h6 i5 i6=>intro h;cases h
 | dry n e A b st v h1 h2 h3 h4 h5 i4=>intro h;cases h
 | work n e A b st v h1 h2 h3 h4 h5 h6 i5=>intro h;cases h
 | call n e A b st v f r s' h1 h2 h3 h4 h5 h6 i4 i6=>intro h;cases h
 | left n e b s c s' h1 h2 h3 i3=>intro h;cases h
 | ldry n e b s x s' h1 h2 h3 h4 i3=>intro h;cases h
 | lone n e b s x s' h1 h2 h3 h4 i3=>intro h;cases h
 | rigt n e b s x s1 c s' h1 h2 h3 h4 h5 i3 i5=>intro h;cases h
 | rdry n e b s x s1 y s' h1 h2 h3 h4 h5 h6 i3 i5=>intro h;cases h
 | both n e b s x s1 y s' h1 h2 h3 h4 h5 h6 i3 i5=>intro h;cases h
 | pbad n s a b z c z' h1 i1=>intro _ v hv;cases hv
 | decl n s a b z v z' h1 h2 i2=>intro _ v hv;cases hv
 | set n s a b z v z' h1 h2 i2=>intro _ v hv;cases hv
 | sbad n s a b z v z1 c z' h1 h2 h3 i2 i3=>intro _ v hv;cases hv
 | smis n s a b z v z1 x z' h1 h2 h3 h4 i2 i3=>intro _ v hv;cases hv
 | stor n s a b z v z1 x z' h1 h2 h3 h4 i2 i3=>intro _ v hv;cases hv
 | ifth n s a b z v z1 r z' h1 h2 h3 h4 i2 i4=>intro _;exact i4 rfl
 | ifel n s a b z z1 r z' h1 h2 h3 i2 i3=>intro _;exact i3 rfl
 | whno n s a b z z' h1 h2 i2=>intro _ v hv;cases hv
 | whn n s a b z v z1 r z' h1 h2 h3 h4 h5 i2 i4=>intro _;exact i4 rfl
 | whdr n s a b z v z1 z' h1 h2 h3 h4 h5 i2 i4=>intro _ v hv;cases hv
 | whag n s a b z v z1 z2 r z' h1 h2 h3 h4 h5 h6 i2 i4 i6=>intro _;exact i6 rfl
 | retn n s a b z v z' h1 h2 i2=>intro _ v hv;cases hv
 | tell n s a b z v z' h1 h2 i2=>intro _ v hv;cases hv
 | only n s a b z v z' h1 h2 i2=>intro _ v hv;cases hv
 | nil n z=>intro _ v hv;cases hv
 | sdry n s q z h1=>intro _ v hv;cases hv
 | send n s q z r z' h1 h2 h3 i2=>intro _;exact i2 rfl
 | next n s q z z1 r z' h1 h2 h3 i2 i3=>intro _;exact i3 rfl
 | blk n ss z r z' h1 i1=>intro _;exact i1 rfl
 | run n f vs z hf r z' h1 i1=>intro h;cases h
theorem TSx.up {N:Nat} {vL1 vO1:Value} (ho : ∀k,vO1.ownBlock=some k->vO.ownBlock=some k∨N<=k) (hl : ∀k,vL1.ownBlock=some k->vL.ownBlock=some k∨N<=k) : ∀k,TSx C lb vL1 vO1 k->TSx C lb vL vO k∨N<=k:=λk hk=>by
 rcases hk with (hk|hk|hk)|hk|hk
 ·exact .inl (.inl (.inl hk))
 ·exact .inl (.inl (.inr (.inl hk)))
 ·exact (ho k hk).imp_left (λh=>.inl (.inr (.inr h)))
 ·exact .inl (.inr (.inl hk))
 ·exact (hl k hk).imp_left (λh=>.inr (.inr h))
theorem TSx.lt (h:RS C w st rt vl lb vL vI vO s) : ∀k,TSx C lb vL vO k->k<w.heap.size:=λk hk=>by
 rcases hk with hk|hk|hk
 ·exact (TEx.lt h k hk).1
 ·exact (h.rng k (by unfold RC.K;exact m_ _ (m_ _ (List.mem_append_right _ hk)))).2
 ·exact (World.ownsRow.lt h.lrow k hk).2
def fuelW (C:RC) (w:World):Nat:=match w.cell? ⟨C.P,7,none⟩ with
 | some (.int _ u)=>(C.F-u).toNat
 | _=>0
theorem RS.fuel (h:RS C w st rt vl lb vL vI vO s):fuelW C w=s.u:=by
 unfold fuelW;rw[(h.box 7 _ rfl).1];show (C.F-(C.F-(s.u:Int))).toNat=s.u;omega
def wb (u:Int):Nat:=if u=0 then 0 else 1
theorem wb_le (u:Int):wb u<=1:=by unfold wb;split <;> omega
theorem wb_ne {u:Int} (h:u≠0):wb u=1:=by unfold wb;rw[if_neg h]
theorem wb_0:wb 0=0:=rfl
end
section
variable {α:Type}
def stOf (e:Int):Int:=if e=3 then 2 else if e=4 then 3 else 1
theorem statusOf_any (e:Int) (w:World):Calls prog 40 #[.int .i64 e] w λx w'=>x=.returned (.int .i64 (stOf e))/\w'=w:=by
 by_cases h3:e=3
 ·subst h3;go_enter func40,ntmps40;go_wp2;go_ret;exact⟨rfl,rfl⟩
 ·by_cases h4:e=4
  ·subst h4;go_enter func40,ntmps40;go_wp2;go_ret;exact⟨rfl,rfl⟩
  ·have e3:(e == 3)=false:=by simpa using h3
   have e4:(e == 4)=false:=by simpa using h4
   have e1:stOf e=1:=by unfold stOf;rw[if_neg h3,if_neg h4]
   rw[e1];go_enter func40,ntmps40;go_wp2;go_ret;exact⟨rfl,rfl⟩
theorem wrapped_any (x:Int) (w:World):Calls prog 102 #[.int .i64 x] w λe w'=>e=.returned (.int .i64 (wrap32 x))/\w'=w:=by
 have hw:IntKind.i64.wrap (wrap32 x)=wrap32 x:=by
  have:=inB_w x
  unfold inB w32 at this;simp[IntKind.wrap,IntKind.bits,IntKind.signed];omega
 go_enter func102,ntmps102;go_wp2;go_ret;exact⟨rfl,rfl⟩
theorem take_all (p:α->Bool) (l:List α) (k:Nat) (hk:k<l.length) (h:(l.take k).all p=true) (hx:p l[k]=true):(l.take (k+1)).all p=true:=by
 rw[List.take_succ_eq_append_getElem hk,List.all_append,h];simp[hx]
theorem not_all (p:α->Bool) (l:List α) (k:Nat) (hk:k<l.length) (hx:p l[k]=false):l.all p=false:=by
 rw[List.all_eq_false];exact⟨l[k],g_ hk,by simp[hx]⟩
theorem allWords_any (v:Value) (l:List Int) (w:World) (hv:InN w v l):Calls prog 66 #[v] w λe w'=>e=.returned (.bool (l.all inBb))/\w'=w:=by
 obtain⟨a,c,rfl,h1,h2,h3⟩:=hv;have HA:=hide h3;clear h3;go_enter func66,ntmps66;go_wp2;go_loopw [7] (λi wr=>∃k:Nat,k<=l.length/\i=.int .i64 (k:Int)/\(l.take k).all inBb=true/\wr=w) (λi _=>l.length-(RowKit.intOf i).toNat)
 case atStart=>exact⟨0,y_,rfl,rfl,rfl⟩
 case round=>
  obtain⟨k,hk,rfl,ha,rfl⟩:=hrel;have HAl:=hide ha;by_cases hlt:k<l.length
  ·have hki:(k:Int)<(l.length:Int):=by omega
   obtain⟨b,off,rfl,hc⟩:=HA o_;have hck:=hc k hlt;obtain⟨x,hx⟩ : ∃x,x=l[k]:=⟨_,rfl⟩;rw[<-hx] at hck;have HX:=hide hx;clear hx hc;go_wp2_with fail;refine (wrapped_any x wr).mono ?_;rintro e w2 ⟨rfl,hw2⟩;rw[hw2];cases hb:inBb x with
   | true=>
    have e1:=w32_in hb;have HB:Hid (inBb l[k]=true):=by rw[<-HX.o];exact hb
    rw[e1];clear hb e1;go_wp2;go_roundw
    case rel=>exact⟨k+1,by omega,by go_num,take_all _ _ _ hlt HAl HB,by first|rfl|trivial⟩
    case measure=>simp[RowKit.intOf];omega
   | false=>
    have e1:(wrap32 x != x)=true:=by simpa using λe=>w32_out hb e.symm
    have HB:Hid (l.all inBb=false):=not_all _ _ _ hlt (by rw[<-HX.o];exact hb)
    go_wp2
    go_ret
    exact⟨by have hB:=HB.o;simp[hB],rfl⟩
  ·obtain rfl:k=l.length:=by omega
   have HB:Hid (l.all inBb=true):=by have:=HAl.o;rwa [List.take_length] at this
   go_wp2
   go_ret
   exact⟨by have hB:=HB.o;simp[hB],rfl⟩
theorem validInput_any (v:Value) (l:List Int) (w:World) (hv:InN w v l):Calls prog 35 #[v] w λe w'=>e=.returned (.bool (decide (l.length<=1000) && l.all inBb))/\w'=w:=by
 have HW:=hide (allWords_any v l w hv);obtain⟨a,c,rfl,h1,h2,h3⟩:=hv;by_cases h:l.length<=1000
 ·have hi:(l.length:Int)<=1000:=by omega
  have hd:decide (l.length<=1000)=true:=by simpa using h
  rw[hd];go_enter func35,ntmps35;go_wp2_with fail;refine HW.o.mono ?_;rintro e w2 ⟨rfl,hw2⟩;rw[hw2];go_wp2;go_ret;exact⟨by simp,rfl⟩
 ·have hi : ¬(l.length:Int)<=1000:=by omega
  have hd:decide (l.length<=1000)=false:=by simpa using h
  rw[hd];go_enter func35,ntmps35;go_wp2;go_ret;exact⟨by simp,rfl⟩
theorem validFrames_any (vg vf v:Value) (fs:List Fu) (l:List Int) (w:World) (hf:Funcs w vf fs) (hg : ∃ag ng cg,vg=.slice ag ng cg) (hv:InN w v l):Calls prog 36 #[.agg #[vg,vf],v] w λe w'=>e=.returned (.bool (decide (l.length=fs.length) && l.all frB))/\Below w.heap.size w w':=by
 obtain⟨a,c,rfl,h1,h2,h3⟩:=hv;obtain⟨af,cf,rfl,-,-,-⟩:=hf;obtain⟨ag,ng,cg,rfl⟩:=hg;have HA:=hide h3;clear h3;obtain⟨W1,hW1⟩ : ∃W1,W1=w.alloc (.cells #[.slice ag ng cg,.slice af fs.length cf] 34):=⟨_,rfl⟩;have hb1:Bl w W1:=by rw[hW1];exact r_.alloc n_ _
 have hx1:FrC W1 w.heap.size [.slice ag ng cg,.slice af fs.length cf]:=by rw[hW1];exact box_fr w _ _ (by show 2<=1000;omega)
 obtain⟨B,hB⟩ : ∃B,B=w.heap.size:=⟨_,rfl⟩;rw[<-hB] at hx1;have x1:=(hx1 1 _ rfl).1;have HW1:=hide hW1;have HBe:=hide hB;have HB1:=hide hb1;clear hW1 hB hb1 hx1;by_cases h:l.length=fs.length
 ·have hd:decide (l.length=fs.length)=true:=by simpa using h
  rw[hd,Bool.true_and];clear hd;have hne:((l.length:Int) != (fs.length:Int))=false:=by rw[h];simp
  generalize fs.length=fl at *;clear h;go_enter func36,ntmps36;go_upto_region 1 with fail;rw[<-HW1.o,<-HBe.o];go_wp2;go_loopw [15] (λi wr=>∃k:Nat,k<=l.length/\i=.int .i64 (k:Int)/\(l.take k).all frB=true/\wr=W1) (λi _=>l.length-(RowKit.intOf i).toNat)
  case atStart=>exact⟨0,y_,rfl,rfl,rfl⟩
  case round=>
   obtain⟨k,hk,rfl,ha,rfl⟩:=hrel;have HAl:=hide ha;clear ha;by_cases hlt:k<l.length
   ·have hki:(k:Int)<(l.length:Int):=by omega
    obtain⟨b,off,rfl,hc⟩:=HA o_;have hck:=(HB1.o.cell (p:=⟨b,off+k,none⟩) (b_ (hc k hlt))).trans (hc k hlt);obtain⟨x,hx⟩ : ∃x,x=l[k]:=⟨_,rfl⟩;rw[<-hx] at hck;have HX:=hide hx;clear hx hc;cases hb:frB x with
    | true=>
     have HB:Hid (frB l[k]=true):=by rw[<-HX.o];exact hb
     simp only[frB,decide_eq_true_eq] at hb;have n1 : ¬x<0:=by omega
     have n2 : ¬(1000000:Int)<x:=by omega
     clear hb;go_wp2;go_roundw
     case rel=>exact⟨k+1,by omega,by go_num,take_all _ _ _ hlt HAl HB,by first|rfl|trivial⟩
     case measure=>simp[RowKit.intOf];omega
    | false=>
     have HB:Hid (l.all frB=false):=not_all _ _ _ hlt (by rw[<-HX.o];exact hb);simp only[frB,decide_eq_false_iff_not] at hb;by_cases n1:x<0
     ·clear hb
      go_wp2
      go_ret
      exact⟨by have hB:=HB.o;simp[hB],HB1.o⟩
     ·have n2:(1000000:Int)<x:=by omega
      clear hb
      go_wp2
      go_ret
      exact⟨by have hB:=HB.o;simp[hB],HB1.o⟩
   ·obtain rfl:k=l.length:=by omega
    have HB:Hid (l.all frB=true):=by have:=HAl.o;rwa [List.take_length] at this
    go_wp2
    go_ret
    exact⟨by have hB:=HB.o;simp[hB],HB1.o⟩
 ·have hd:decide (l.length=fs.length)=false:=by simpa using h
  rw[hd,Bool.false_and];clear hd;have hne:((l.length:Int) != (fs.length:Int))=true:=by simp;omega
  generalize fs.length=fl at *;clear h;go_enter func36,ntmps36;go_upto_region 1 with fail;rw[<-HW1.o,<-HBe.o];go_wp2;go_ret;exact⟨rfl,HB1⟩
end
theorem stS_deep (C:RC) (hC:C.Ok) (n:Nat) (IH:ExS C n) (IB:BlS C n) (s:St) (a b:List St) (z:ES) (r:ER) (z':ES) (hE:Ev C.t C.fr (n+1) (.p s a b) z r z') (hk:s.kind≠3) (hk48:s.kind=4∨s.kind=5) (hOa:OkB C.t (z.l.map Prod.fst) a) (hOb:OkB C.t (z.l.map Prod.fst) b) (hKn:KnP C.t (z.l.map Prod.fst) s) (hsc:Scp C.t (z.l.map Prod.fst)) (h1:oneB s.e=true) (hl1:s.e.length<=1048576) (hou:(z.o.length:Int)+z.u+1<=C.F) (hlu:z.l.length+z.u+1<=200000)
  (w:World) (vl:Int) (lb:List Nat) (vL vI vO ve vf va vb:Value) (vt vu:Int) (h:RS C w 0 false vl lb vL vI vO z) (hNe:Nodes C.w0 ve s.e) (hfs : ∃fa fn fc,vf=.slice fa fn fc) (hSa:Stmts C.w0 va a) (hSb:Stmts C.w0 vb b) :
  Calls prog 99 #[.pointer (some ⟨C.P,0,none⟩),.agg #[.int .i64 s.kind,.string s.name,ve,vf,.int .i64 vt,.int .i64 vu],va,vb] w λx w'=>PaP C w lb vL vO r z' x w':=by
 obtain⟨ea,en,ec,rfl⟩ : ∃ea en ec,ve=.slice ea en ec:=⟨_,_,_,hNe.choose_spec.choose_spec.1⟩;obtain⟨fa,fn,fc,rfl⟩:=hfs;obtain⟨aa,an,ac,rfl⟩ : ∃fa fn fc,va=.slice fa fn fc:=⟨_,_,_,hSa.choose_spec.choose_spec.1⟩;obtain⟨ba,bn,bc,rfl⟩ : ∃fa fn fc,vb=.slice fa fn fc:=⟨_,_,_,hSb.choose_spec.choose_spec.1⟩;obtain⟨sk,hsk⟩ : ∃sk,sk=s.kind:=⟨_,rfl⟩;rw[<-hsk];obtain⟨W,hW⟩ : ∃W,W=w.alloc (.cells #[.int .i64 sk,.string s.name,.slice ea en ec,.slice fa fn fc,.int .i64 vt,.int .i64 vu] 132):=⟨_,rfl⟩;obtain⟨B,hB⟩ : ∃B,B=w.heap.size:=⟨_,rfl⟩;have hbW:Bl w W:=by rw[hW];exact r_.alloc n_ _
 have hBW:B<W.heap.size:=by rw[hW,hB,World.size_alloc];omega
 have hfr:FrC W B [.int .i64 sk,.string s.name,.slice ea en ec,.slice fa fn fc,.int .i64 vt,.int .i64 vu]:=by
  rw[hW,hB];exact box_fr w #[.int .i64 sk,.string s.name,.slice ea en ec,.slice fa fn fc,.int .i64 vt,.int .i64 vu] _ (by show 6<=1000;omega)
 have hRW:=h.below hbW;have hT0 : ∀k,TEx C vO k->k<B:=λk hk=>by rw[hB];exact (TEx.lt h k hk).1
 have key : ∀(r1:ER) (z1:ES),Ev C.t C.fr n (.e s.e) z r1 z1->Calls prog 131 #[.pointer (some ⟨C.P,0,none⟩),.slice ea en ec] W λx w'=>ExP C W lb vL vO r1 z1 x w':=λr1 z1 h1'=>IH s.e z r1 z1 h1' hKn.e hsc h1 hl1 W vl lb vL vI vO _ hRW hNe;obtain⟨HO,HC,HKn,HSc,HB,HbW,HT0,HBW,HFr,HSk⟩:=h10 (λ(r1:ER) (z1:ES) (h':Ev C.t C.fr n (.e s.e) z r1 z1)=>And.intro (h'.inv h.ok trivial) h'.ou) hC hKn hsc hB hbW hT0 hBW hfr hsk;have g2:=(hfr 2 _ rfl).1;have HFin:Hid (∀(w':World) (r:ER) (z':ES) (vL' vI' vO':Value) (vl':Int),RS C w' (stR r) (rtR r) vl' lb vL' vI' vO' z'->(∀v,r=.ret v->vl'=v)->Tcs (TSx C lb vL vO) W w'->(∀k,vO'.ownBlock=some k->vO.ownBlock=some k∨W.heap.size<=k)->(∀k,vL'.ownBlock=some k->vL.ownBlock=some k∨W.heap.size<=k)->PaP C w lb vL vO r z' (.returned (.tuple #[])) w'):=λw' r z' vL' vI' vO' vl' hR hv ht ho hl=>⟨⟨_,rfl⟩,lb,vL',vI',vO',vl',hR,hv,⟨[],by simp,λb hb=>by simp at hb⟩,(hbW.tcs (S:=TSx C lb vL vO)).next ht (λk hk=>.inl hk),λk hk=>(ho k hk).imp_right (λh1=>t_ hbW.size h1),λk hk=>(hl k hk).imp_right (λh1=>t_ hbW.size h1)⟩;have hTS : ∀k,TSx C lb vL vO k->k<B:=λk hk=>by rw[hB];exact TSx.lt h k hk
 have HTS:=hide hTS;have hblk : ∀(ss:List St) (av:Option Addr) (nv cv:Nat),OkB C.t (z.l.map Prod.fst) ss->Stmts C.w0 (.slice av nv cv) ss->∀(z1:ES) (m:Nat) (rb:ER) (zb:ES),m<=n->Ev C.t C.fr m (.bl ss) z1 rb zb->z1.l.map Prod.fst=z.l.map Prod.fst->z1.l.length+z1.u<=200000->∀(w1:World) (vl1:Int) (vL1 vI1 vO1:Value),RS C w1 0 false vl1 lb vL1 vI1 vO1 z1->Calls prog 63 #[.pointer (some ⟨C.P,0,none⟩),.slice av nv cv] w1 λx w'=>BlP C w1 lb vL1 vO1 rb zb x w':=λss av nv cv hO hS z1 m rb zb hm hb hn hl w1 vl1 vL1 vI1 vO1 hR=>IB ss z1 rb zb (hb.ups hm) (by rw[hn];exact hO) (by rw[hn];exact hsc) hl w1 vl1 lb vL1 vI1 vO1 _ hR hS;obtain⟨HBa,HBb⟩:=h2 (hblk a aa an ac hOa hSa) (hblk b ba bn bc hOb hSb);have hex : ∀(z1:ES) (m:Nat) (r1:ER) (z2:ES),m<=n->Ev C.t C.fr m (.e s.e) z1 r1 z2->z1.l.map Prod.fst=z.l.map Prod.fst->∀(w1:World) (vl1:Int) (vL1 vI1 vO1:Value),RS C w1 0 false vl1 lb vL1 vI1 vO1 z1->Calls prog 131 #[.pointer (some ⟨C.P,0,none⟩),.slice ea en ec] w1 λx w'=>ExP C w1 lb vL1 vO1 r1 z2 x w':=λz1 m r1 z2 hm he hn w1 vl1 vL1 vI1 vO1 hR=>IH s.e z1 r1 z2 (he.ups hm) (by rw[hn];exact hKn.e) (by rw[hn];exact hsc) h1 hl1 w1 vl1 lb vL1 vI1 vO1 _ hR hNe;have HEx:=hide hex;have HFb:=hide hC.fu;obtain⟨HRS,HOu⟩:=h2 h (And.intro hou hlu);rcases ev_stmt hE hk with ⟨c,rfl,e1⟩|⟨v,z1,e1,hrest⟩
 ·have hc0:(c == 0)=false:=by rcases e1.outc c rfl with rfl|rfl <;> rfl
  have hc1:(c != 0)=true:=by rcases e1.outc c rfl with rfl|rfl <;> rfl
  have HCl:=hide (key _ _ e1);clear key HO HC HKn HSc hE hC hKn hsc IH h1 hl1 hNe hRW hT0 hfr h hbW e1 hk hk48 hsk hou hlu hTS hblk hex IB hOa hOb hSa hSb HBa HBb HEx;go_enter func99,ntmps99;go_wp2_with fail;rw[<-hW,<-hB];clear hW hB;refine HCl.o.mono ?_;rintro x w1 ⟨z0,vI1,vO1,vl1,rfl,-,hR1,t1,ho1⟩;have y8:=(hR1.box 8 _ rfl).1;simp only[stR] at y8;have HF:=hide (HFin w1 (.out c) z' vL vI1 vO1 vl1 hR1 (λv hv=>by cases hv) ((Tcs.refl (TSx C lb vL vO) W).next t1 (TEx.up (λk hk=>.inl hk))) ho1 (λk hk=>.inl hk));clear hR1 t1 ho1;go_wp2_with fail;exact bodyPost_ret (v:=.tuple #[]) (by simp[results,results99,go_sem]) rfl HF
 ·have HCl:=hide (key _ _ e1);obtain⟨⟨o1,v1,s1⟩,ou1⟩:=HO _ _ e1;have hz1:z1.l=z.l:=s1.2.2.2;obtain⟨HZ1,HV⟩:=h2 hz1 (v1 v (.inl rfl));have hou1:(z1.o.length:Int)+z1.u+1<=C.F:=by have:=ou1.2.1;simp only[Tk.d] at this;omega
  have hlu1:z1.l.length+1<=200000:=by have:=ou1.2.2;simp only[Tk.d] at this;omega
  have hrest':(sk=4/\(v≠0/\Ev C.t C.fr n (.bl a) z1 r z'∨v=0/\Ev C.t C.fr n (.bl b) z1 r z'))∨(sk=5/\Wh C.t C.fr n s a b v z1 r z'):=by
   rw[hsk];rcases hrest with ⟨h,-⟩|⟨h,-⟩|⟨h,-⟩|⟨h,-⟩|⟨h,-⟩|h|h
   ·omega
   ·omega
   ·omega
   ·omega
   ·omega
   ·exact .inl h
   ·exact .inr h
  have hlz:z1.l.length+z1.u<=200000:=by have:=ou1.2.2;simp only[Tk.d] at this;omega
  have HLz:=hide hlz;have HN1:Hid (z1.l.map Prod.fst=z.l.map Prod.fst):=by show _=_;rw[hz1]
  clear key HO hE hC hKn hsc IH h1 hl1 hNe hRW hT0 hfr h hbW e1 hk hk48 hsk hou hlu hou1 hlu1 ou1 o1 v1 s1 hz1 hrest hTS hblk hex IB hOa hOb hSa hSb hlz;go_enter func99,ntmps99;go_wp2_with fail;rw[<-hW,<-hB];clear hW hB;refine HCl.o.mono ?_;rintro x w1 ⟨z0,vI1,vO1,vl1,rfl,hz,hR1,t1,ho1⟩;obtain rfl:v=z0:=(hz v rfl).symm;clear hz;have y8:=(hR1.box 8 _ rfl).1;simp only[stR] at y8 hR1;have hfr1:=HFr.o.tcs HBW t1 (λhx=>by have:=HT0.o _ hx;omega);have HT1:=hide ((Tcs.refl (TSx C lb vL vO) W).next t1 (TEx.up (λk hk=>.inl hk)));have hBs:B<w1.heap.size:=l_ HBW t1.size;have HW1:=hide t1.size;have g0:=(hfr1 0 _ rfl).1;have g1:=(hfr1 1 _ rfl).1;obtain⟨HFr1,HOw,HR1⟩:=h3 hfr1 ho1 hR1;have hup : ∀k,TEx C vO1 k->TSx C lb vL vO k∨W.heap.size<=k:=TEx.up ho1;clear hR1 t1 ho1 hfr1 hup;rcases hrest' with ⟨rfl,hv⟩|⟨rfl,hwh⟩
  ·rcases hv with ⟨hv,hb⟩|⟨rfl,hb⟩
   ·have hv':(v != 0)=true:=by simpa using hv
    have HCb:=hide (HBa z1 n r z' n_ hb HN1 HLz w1 vl1 vL vI1 vO1 HR1);clear hb hv;go_wp2_with fail;refine HCb.o.mono ?_;rintro x w2 ⟨⟨y,rfl⟩,vL2,vI2,vO2,vl2,hR2,hv2,t2,ho2,hl2⟩;have HF:=hide (HFin w2 r z' vL2 vI2 vO2 vl2 hR2 hv2 (HT1.o.next t2 (TSx.up HOw (λk hk=>.inl hk))) (λk hk=>by
     rcases ho2 k hk with h1|h1
     ·exact HOw k h1
     ·exact .inr (t_ HW1 h1)) (λk hk=>(hl2 k hk).imp_right (λh1=>t_ HW1 h1)))
    clear hR2 hv2 t2 ho2 hl2;go_wp2_with fail;exact bodyPost_end (v:=.tuple #[]) (by simp[results,results99,go_sem]) rfl HF
   ·have HCb:=hide (HBb z1 n r z' n_ hb HN1 HLz w1 vl1 vL vI1 vO1 HR1);clear hb;go_wp2_with fail;refine HCb.o.mono ?_;rintro x w2 ⟨⟨y,rfl⟩,vL2,vI2,vO2,vl2,hR2,hv2,t2,ho2,hl2⟩;have HF:=hide (HFin w2 r z' vL2 vI2 vO2 vl2 hR2 hv2 (HT1.o.next t2 (TSx.up HOw (λk hk=>.inl hk))) (λk hk=>by
     rcases ho2 k hk with h1|h1
     ·exact HOw k h1
     ·exact .inr (t_ HW1 h1)) (λk hk=>(hl2 k hk).imp_right (λh1=>t_ HW1 h1)))
    clear hR2 hv2 t2 ho2 hl2;go_wp2_with fail;exact bodyPost_end (v:=.tuple #[]) (by simp[results,results99,go_sem]) rfl HF
  ·have HWh:=hide hwh;clear hwh;go_wp2;go_loopw [8] (λi wr=>∃(u:Int) (vL1 vI1 vO1:Value) (vl1:Int) (zc:ES),i=.int .i64 u/\(∀k,vO1.ownBlock=some k->vO.ownBlock=some k∨W.heap.size<=k)/\(∀k,vL1.ownBlock=some k->vL.ownBlock=some k∨W.heap.size<=k)/\Tcs (TSx C lb vL vO) W wr /\
    ((u≠0/\∃m,m<=n/\Wh C.t C.fr m s a b u zc r z'/\RS C wr 0 false vl1 lb vL1 vI1 vO1 zc/\zc.l.map Prod.fst=z.l.map Prod.fst/\zc.l.length+zc.u<=200000)∨((u=0∨stR r≠0)/\RS C wr (stR r) (rtR r) vl1 lb vL1 vI1 vO1 z'/\∀v,r=.ret v->vl1=v))) (λi wr=>wb (RowKit.intOf i)+2*fuelW C wr)
   case atStart=>
    refine⟨v,vL,vI1,vO1,vl1,z1,rfl,HOw,λk hk=>.inl hk,HT1,?_⟩;by_cases hv:v=0
    ·rcases HWh.o with ⟨-,rfl,rfl⟩|⟨h1,-⟩
     ·exact .inr ⟨.inl hv,HR1,λv hv=>by cases hv⟩
     ·exact absurd hv h1
    ·exact .inl ⟨hv,n,n_,HWh,HR1,HN1,HLz⟩
   case round=>
    clear HWh HR1 HN1 HLz HT1 HOw HFr1 g0 g1 y8 HW1;obtain⟨u,vL1,vI1,vO1,vl1,zc,rfl,ho,hl,ht,hst⟩:=hrel;obtain⟨HHo,HHl,HHt⟩:=h3 ho hl ht;have hfrw:=HFr.o.tcs HBW ht (λhx=>by have:=HTS.o _ hx;omega);have k2:=(hfrw 2 _ rfl).1;have hBw:B<wr.heap.size:=l_ HBW ht.size;clear ho hl ht hfrw;rcases hst with ⟨hu,m,hm,hw,hR,hN,hL⟩|⟨hu,hR,hv⟩
    ·have hu':(u != 0)=true:=by simpa using hu
     rcases hw with ⟨h1,-⟩|⟨-,rb,zb,hb,hrest⟩
     ·exact absurd h1 hu
     obtain⟨HRc,HCb⟩:=h2 hR (HBa zc m rb zb hm hb hN hL wr vl1 vL1 vI1 vO1 hR);have HOb:=hide hb.ou;obtain⟨HNv,HOc⟩:=h2 (hb.nov rfl) (λc (h:rb=.out c)=>hb.outc c h);have hNb:zb.l.map Prod.fst=zc.l.map Prod.fst:=(hb.inv hR.ok trivial).2.2.2.2.2;obtain⟨HNb,HRe,HL,HM⟩:=h4 (hNb.trans hN) hrest hL hm;have HFu:=hide hR.fuel;clear hb hrest hR hNb hN hL hm;go_wp2_with fail;refine (going_any HRc).mono ?_;rintro x w2 ⟨rfl,hw2⟩;rw[hw2];clear hw2;go_wp2_with fail;refine HCb.o.mono ?_;rintro x w2 ⟨⟨y,rfl⟩,vL2,vI2,vO2,vl2,hR2,hv2,t2,ho2,hl2⟩;obtain⟨HR2,HV2,HT2⟩:=h3 hR2 hv2 (HHt.o.next t2 (TSx.up HHo HHl));have hws:W.heap.size<=wr.heap.size:=HHt.o.size;have HO2:Hid (∀k,vO2.ownBlock=some k->vO.ownBlock=some k∨W.heap.size<=k):=λk hk=>by
      rcases ho2 k hk with h1|h1
      ·exact HHo k h1
      ·exact .inr (t_ hws h1)
     have HL2:Hid (∀k,vL2.ownBlock=some k->vL.ownBlock=some k∨W.heap.size<=k):=λk hk=>by
      rcases hl2 k hk with h1|h1
      ·exact HHl k h1
      ·exact .inr (t_ hws h1)
     have HUb:Hid (zb.u<=zc.u):=HOb.o.1;clear hR2 hv2 t2 ho2 hl2 hws;go_wp2_with fail;refine (going_any HR2).mono ?_;rintro x w3 ⟨rfl,hw3⟩;rw[hw3];clear hw3;rcases HRe.o with ⟨hrb,rfl,rfl⟩|⟨rfl,hu0,rfl,rfl⟩|⟨rfl,hu0,hp⟩
     ·have hg:(decide (stR r=0) && !rtR r)=false:=by
       cases r using ER.cs with
       | val v=>exact absurd rfl (HNv v)
       | on=>exact absurd rfl hrb
       | ret v=>rfl
       | out c=>rcases HOc c rfl with rfl|rfl <;> rfl
      rw[hg];go_wp2;go_roundw
      case rel=>exact⟨0,vL2,vI2,vO2,vl2,z',rfl,HO2,HL2,HT2,.inr ⟨.inl rfl,HR2,HV2⟩⟩
      case measure=>simp only[RowKit.intOf];rw[HR2.o.fuel,HFu.o,wb_ne hu,wb_0];have:=HUb.o;omega
     ·have hR2:=HR2;simp only[stR,rtR] at hR2;have hg:(decide (stR .on=0) && !rtR .on)=true:=rfl;rw[hg];go_wp2_with fail;refine (spend0 hR2 hu0).mono ?_;rintro x w4 ⟨⟨y,rfl⟩,hR4,t4⟩;have y8:=(hR4.box 8 _ rfl).1;obtain⟨HR4,HT4⟩:=h2 hR4 (HT2.o.next t4 (λk hk=>.inl (.inl (.inl hk))));clear hR4 t4 hR2;go_wp2;go_roundw
      case rel=>exact⟨0,vL2,vI2,vO2,vl2,z',rfl,HO2,HL2,HT4,.inr ⟨.inl rfl,HR4,λv hv=>by cases hv⟩⟩
      case measure=>simp only[RowKit.intOf];rw[HR4.o.fuel,HFu.o,wb_ne hu,wb_0];have:=HUb.o;omega
     ·have hR2:=HR2;simp only[stR,rtR] at hR2;have hg:(decide (stR .on=0) && !rtR .on)=true:=rfl;rw[hg];have HHp:=hide hp;clear hp;go_wp2_with fail;refine (spend1 hR2 hu0 HFb).mono ?_;rintro x w4 ⟨⟨y,rfl⟩,hR4,t4⟩;have y8:=(hR4.box 8 _ rfl).1;obtain⟨HR4,HT4⟩:=h2 hR4 (HT2.o.next t4 (λk hk=>.inl (.inl (.inl hk))));have hfr4:=HFr.o.tcs HBW HT4 (λhx=>by have:=HTS.o _ hx;omega);have k2:=(hfr4 2 _ rfl).1;have hN4:zb.sp.l.map Prod.fst=z.l.map Prod.fst:=HNb;have hu4:zb.sp.u+1=zb.u:=by simp only[ES.sp];omega
      have hws4:W.heap.size<=w4.heap.size:=HT4.o.size;clear hR4 t4 hR2 hfr4;obtain⟨m',rfl⟩ : ∃m',m=m'+1:=by
       cases m with
       | zero=>exact absurd HHp (by intro h;first | cases h using Ev_i | cases h)
       | succ m'=>exact⟨m',rfl⟩
      have hm':m'<=n:=by have:=HM.o;omega
      have hkk:s.kind≠3:=by have:=HSk.o;omega
      rcases ev_stmt HHp.o hkk with ⟨c,rfl,e5⟩|⟨v5,z5,e5,h5⟩
      ·have hc:=e5.outc c rfl;have HC5:=hide (HEx _ _ _ _ hm' e5 hN4 w4 vl2 vL2 vI2 vO2 HR4);have HU5:=hide e5.ou.1;clear e5 hN4;go_wp2_with fail;refine HC5.o.mono ?_;rintro x w5 ⟨u5,vI5,vO5,vl5,rfl,-,hR5,t5,ho5⟩;obtain⟨HR5,HT5⟩:=h2 hR5 (HT4.o.next t5 (λk hk=>TSx.up HO2 HL2 k (.inl hk)));have HO5:Hid (∀k,vO5.ownBlock=some k->vO.ownBlock=some k∨W.heap.size<=k):=λk hk=>by
        rcases ho5 k hk with h1|h1
        ·exact HO2 k h1
        ·exact .inr (t_ hws4 h1)
       clear hR5 t5 ho5;go_wp2;go_roundw
       case rel=>exact⟨u5,vL2,vI5,vO5,vl5,z',rfl,HO5,HL2,HT5,.inr ⟨.inr (by show c≠0;omega),HR5,λv hv=>by cases hv⟩⟩
       case measure=>simp only[RowKit.intOf];rw[HR5.o.fuel,HFu.o,wb_ne hu];have:=HUb.o;have:=HU5.o;have:=wb_le u5;omega
      ·have h5':Wh C.t C.fr m' s a b v5 z5 r z':=by
        have hs5:s.kind=5:=HSk.o.symm;rcases h5 with ⟨h,-⟩|⟨h,-⟩|⟨h,-⟩|⟨h,-⟩|⟨h,-⟩|⟨h,-⟩|⟨-,h⟩
        ·omega
        ·omega
        ·omega
        ·omega
        ·omega
        ·omega
        ·exact h
       obtain⟨HW5,HC5⟩:=h2 h5' (HEx _ _ _ _ hm' e5 hN4 w4 vl2 vL2 vI2 vO2 HR4);have HU5:=hide e5.ou;have HZ5:Hid (z5.l=zb.sp.l):=(e5.inv HR4.o.ok trivial).2.2.2.2.2;have HN5:=hide hN4;clear e5 hN4 h5 h5';go_wp2_with fail;refine HC5.o.mono ?_;rintro x w5 ⟨u5,vI5,vO5,vl5,rfl,hz,hR5,t5,ho5⟩;obtain rfl:v5=u5:=(hz v5 rfl).symm;clear hz;obtain⟨HR5,HT5⟩:=h2 hR5 (HT4.o.next t5 (λk hk=>TSx.up HO2 HL2 k (.inl hk)));have HO5:Hid (∀k,vO5.ownBlock=some k->vO.ownBlock=some k∨W.heap.size<=k):=λk hk=>by
        rcases ho5 k hk with h1|h1
        ·exact HO2 k h1
        ·exact .inr (t_ hws4 h1)
       clear hR5 t5 ho5;go_wp2;go_roundw
       case rel=>
        refine⟨v5,vL2,vI5,vO5,vl5,z5,rfl,HO5,HL2,HT5,?_⟩;by_cases hv:v5=0
        ·rcases HW5.o with ⟨-,rfl,rfl⟩|⟨h1,-⟩
         ·exact .inr ⟨.inl hv,HR5,λv hv=>by cases hv⟩
         ·exact absurd hv h1
        ·refine .inl ⟨hv,m',hm',HW5.o,HR5.o,by rw[HZ5.o];exact HN5.o,?_⟩
         have h1:=HU5.o.2.2
         have h2:=HOb.o.2.2
         have h3:=HL.o
         simp only[Tk.d] at h1 h2
         have h4:zb.sp.l.length=zb.l.length:=rfl
         omega
       case measure=>simp only[RowKit.intOf];rw[HR5.o.fuel,HFu.o,wb_ne hu];have:=HUb.o;have:=HU5.o.1;have:=wb_le v5;omega
    ·have HF:=hide (HFin wr r z' vL1 vI1 vO1 vl1 hR hv HHt HHo HHl);by_cases hu0:u=0
     ·subst hu0;clear hR hv hu;go_wp2_with fail;exact bodyPost_end (v:=.tuple #[]) (by simp[results,results99,go_sem]) rfl HF
     ·have hu':(u != 0)=true:=by simpa using hu0
      have hg:(decide (stR r=0) && !rtR r)=false:=by
       rcases hu with h|h
       ·exact absurd h hu0
       ·simp[h]
      have HRc:=hide hR;clear hR hv hu;go_wp2_with fail;refine (going_any HRc).mono ?_;rintro x w2 ⟨rfl,hw2⟩;rw[hw2,hg];clear hw2;go_wp2_with fail;exact bodyPost_end (v:=.tuple #[]) (by simp[results,results99,go_sem]) rfl HF
section
variable {s:St} {t:Tr} {w:World} {n cap:Nat} {a:Option Addr}
def StS (C:RC) (n:Nat):Prop:=∀(s:St) (a b:List St) (z:ES) (r:ER) (z':ES),Ev C.t C.fr n (.p s a b) z r z'->KnP C.t (z.l.map Prod.fst) s->Scp C.t (z.l.map Prod.fst)->stmtB s=true->s.e.length<=1048576->s.f.length<=1048576->(s.kind=4∨s.kind=5->OkB C.t (z.l.map Prod.fst) a/\OkB C.t (z.l.map Prod.fst) b)->(z.o.length:Int)+z.u+1<=C.F->z.l.length+z.u+1<=200000 ->
 ∀(w:World) (vl:Int) (lb:List Nat) (vL vI vO ve vf va vb:Value) (vt vu:Int),RS C w 0 false vl lb vL vI vO z->Nodes C.w0 ve s.e->Nodes C.w0 vf s.f->Stmts C.w0 va a->Stmts C.w0 vb b ->
 (s.kind=3->Calls prog 98 #[.pointer (some ⟨C.P,0,none⟩),.agg #[.int .i64 s.kind,.string s.name,ve,vf,.int .i64 vt,.int .i64 vu]] w λx w'=>PaP C w lb vL vO r z' x w') /\
 (s.kind≠3->Calls prog 99 #[.pointer (some ⟨C.P,0,none⟩),.agg #[.int .i64 s.kind,.string s.name,ve,vf,.int .i64 vt,.int .i64 vu],va,vb] w λx w'=>PaP C w lb vL vO r z' x w')
theorem stmtB_parts (h:stmtB s=true):(1<=s.kind/\s.kind<=8)/\oneB s.e=true/\(s.kind=3->oneB s.f=true):=by
 unfold stmtB at h;simp only[Bool.and_eq_true,decide_eq_true_eq] at h;obtain⟨⟨⟨⟨⟨⟨h1,-⟩,h2⟩,h3⟩,-⟩,-⟩,-⟩:=h;refine⟨h1,h2,λhk => ?_⟩;rw[if_pos hk] at h3;exact h3
theorem stS_step (C:RC) (hC:C.Ok) (n:Nat) (IH:ExS C n) (IB:BlS C n):StS C (n+1):=by
 intro s a b z r z' hE hKn hsc hsB hl1 hl2 hab hou hlu w vl lb vL vI vO ve vf va vb vt vu h hNe hNf hSa hSb;obtain⟨hk,h1,h2⟩:=stmtB_parts hsB;refine⟨λh3=>stS_store C hC n IH s a b z r z' hE h3 hKn hsc h1 (h2 h3) hl1 hl2 w vl lb vL vI vO ve vf vt vu h hNe hNf,λh3 => ?_⟩;by_cases h45:s.kind=4∨s.kind=5
 ·obtain⟨hOa,hOb⟩:=hab h45;exact stS_deep C hC n IH IB s a b z r z' hE h3 h45 hOa hOb hKn hsc h1 hl1 hou hlu w vl lb vL vI vO ve vf va vb vt vu h hNe ⟨_,_,_,hNf.choose_spec.choose_spec.1⟩ hSa hSb
 ·exact stS_plain C hC n IH s a b z r z' hE h3 ⟨λh=>h45 (.inl h),λh=>h45 (.inr h)⟩ hKn hsc h1 hl1 hou hlu w vl lb vL vI vO ve vf va vb vt vu h hNe ⟨_,_,_,hNf.choose_spec.choose_spec.1⟩ ⟨_,_,_,hSa.choose_spec.choose_spec.1⟩ ⟨_,_,_,hSb.choose_spec.choose_spec.1⟩
theorem ev_names {t:Tr} {fr:List Int} : ∀(n:Nat) {s:St} {a b:List St} {z z':ES},Ev t fr n (.p s a b) z .on z'->OkW z->z'.l.map Prod.fst=scp s (z.l.map Prod.fst)
 | 0,_,_,_,_,_,h,_=>by first | cases h using Ev_i | cases h
 | n+1,s,a,b,z,z',h,ho=>by
  have key : ∀ {r z1},Ev t fr n (.e s.e) z r z1->OkW z1/\z1.l=z.l:=λh1=>by
   have:=h1.inv ho trivial
   exact⟨this.1,this.2.2.2.2.2⟩
  have keyb : ∀ {ss z1 r z2},Ev t fr n (.bl ss) z1 r z2->OkW z1->OkW z2/\z2.l.map Prod.fst=z1.l.map Prod.fst:=λh1 h2=>by
   have:=h1.inv h2 trivial
   exact⟨this.1,this.2.2.2.2.2⟩
  by_cases hk:s.kind=3
  ·have hs:scp s (z.l.map Prod.fst)=z.l.map Prod.fst:=by unfold scp;rw[if_neg o_]
   rw[hs];rcases ev_store h hk with ⟨c,hr,-⟩|⟨v,z1,e1,⟨c,hr,-⟩|⟨x,z2,e2,⟨-,hr,-⟩|⟨-,-,rfl⟩⟩⟩
   ·cases hr
   ·cases hr
   ·cases hr
   ·obtain⟨o1,l1⟩:=key e1;have l2:=(e2.inv o1 trivial).2.2.2.2.2;have l2:z2.l=z1.l:=l2;rw[(st_sh (t:=t) (s:=z2) (x:=s.name) (j:=v.toNat) (v:=x)).2.2.1,l2,l1]
  ·rcases ev_stmt h hk with ⟨c,hr,-⟩|⟨v,z1,e1,h1⟩
   ·cases hr
   ·obtain⟨o1,l1⟩:=key e1;rcases h1 with ⟨k1,-,rfl⟩|⟨k1,-,rfl⟩|⟨k1,hr,-⟩|⟨k1,-,rfl⟩|⟨k1,-,rfl⟩|⟨k1,hb⟩|⟨k1,hw⟩
    ·unfold scp;rw[if_pos k1];show (z1.l++[(s.name,v)]).map Prod.fst=_;rw[l1];simp
    ·unfold scp;rw[if_neg o_,(wr_sh (t:=t) (s:=z1) (x:=s.name) (v:=v)).2.2.1,l1]
    ·cases hr
    ·unfold scp;rw[if_neg o_];show z1.l.map Prod.fst=_;rw[l1]
    ·unfold scp;rw[if_neg o_,l1]
    ·have hs:scp s (z.l.map Prod.fst)=z.l.map Prod.fst:=by unfold scp;rw[if_neg o_]
     rw[hs];rcases hb with ⟨-,hb⟩|⟨-,hb⟩
     ·rw[(keyb hb o1).2,l1]
     ·rw[(keyb hb o1).2,l1]
    ·have hs:scp s (z.l.map Prod.fst)=z.l.map Prod.fst:=by unfold scp;rw[if_neg o_]
     rw[hs];rcases hw with ⟨-,-,rfl⟩|⟨-,rb,zb,hb,⟨h1,h2,-⟩|⟨-,-,h2,-⟩|⟨-,-,hp⟩⟩
     ·rw[l1]
     ·exact absurd h2.symm h1
     ·cases h2
     ·obtain⟨ob,lb⟩:=keyb hb o1;have:=ev_names n hp ⟨ob.g,ob.l,ob.i⟩
      rw[this];unfold scp;rw[if_neg o_];show zb.l.map Prod.fst=_;rw[lb,l1]
theorem OkB.cons {sc:List ByteArray} {q:List St} (h:OkB t sc (s::q)):KnP t sc s/\(s.kind=4∨s.kind=5->OkB t sc (q.take s.thn.toNat)/\OkB t sc ((q.drop s.thn.toNat).take s.els.toNat))/\OkB t (scp s sc) (q.drop (s.thn.toNat+s.els.toNat))/\(0<=s.thn/\s.thn<=q.length/\0<=s.els/\s.els<=q.length-s.thn):=by
 obtain⟨⟨tk,h1,h2⟩,h3,h4,h5⟩:=h.snd.cons;have hf:=h.fit;rw[fitB_cons,Bool.and_eq_true,Bool.and_eq_true,Bool.and_eq_true,decide_eq_true_iff] at hf;obtain⟨hp,f1,f2,f3⟩:=hf;have hln:=h.ln;simp only[l_c] at hln;refine⟨stmt_kn h2 h1,λh45 => ?_,⟨h5,λx hx=>h.ok x (m_ _ (List.mem_of_mem_drop hx)),f3,by simp;omega⟩,hp⟩;have hs:scp s sc=sc:=by unfold scp;rw[if_neg o_]
 rw[hs] at h3 h4;refine⟨⟨h3,λx hx=>h.ok x (m_ _ (List.mem_of_mem_take hx)),f1,by simp;omega⟩,h4,λx hx=>h.ok x (m_ _ (List.mem_of_mem_drop (List.mem_of_mem_take hx))),?_,by simp;omega⟩;have e:(q.take (s.thn.toNat+s.els.toNat)).drop s.thn.toNat=(q.drop s.thn.toNat).take s.els.toNat:=by
  rw[List.drop_take];congr 1;omega
 rw[<-e];exact f2
theorem own_less {B size d:Nat} {e:TypeId} {xs:List Value} (h:w.ownsRow B e size (.slice a n cap) n xs) (hd:d<=n):w.ownsRow B e size (.slice a d cap) d (xs.take (d*size)):=by
 have hm:d*size<=n*size:=Nat.mul_le_mul_right _ hd;obtain⟨h1,h2⟩:=h;refine⟨by rw[List.length_take];omega,?_⟩;rcases h2 with ⟨e1,e2⟩|⟨g,c2,cur,e1,p1,p2,p3,p4,p5,p6⟩
 ·simp only[Value.slice.injEq] at e1;obtain⟨rfl,-,rfl⟩:=e1;obtain rfl:d=0:=by omega
  exact .inl ⟨rfl,rfl⟩
 ·simp only[Value.slice.injEq] at e1;obtain⟨rfl,-,rfl⟩:=e1;refine .inr ⟨g,cap,cur,rfl,p1,p2,by omega,p4,p5,?_⟩;rw[<-p6,List.take_take,Nat.min_eq_left hm]
theorem RS.cutL {C:RC} {c:Int} {rt:Bool} {vl:Int} {lb m:List Nat} {vI vO:Value} {s s':ES} (h:RS C w c rt vl (lb++m) (.slice a n cap) vI vO s) (hn:n=s.l.length) (hs:s' = {s with l:=s.l.take lb.length}) :
  RS C (w.setCell ⟨C.P,3,none⟩ (.slice a lb.length cap)) c rt vl lb (.slice a lb.length cap) vI vO s':=by
 obtain⟨p1,p2,p3,p4⟩:=h.hi;subst hn;have hll:=h.ll;rw[l_a] at hll;have ht:Tcs (λk=>k=C.P) w (w.setCell ⟨C.P,3,none⟩ (.slice a lb.length cap)):=(Tcs.refl (λk=>k=C.P) w).setCell (p:=⟨C.P,3,none⟩) rfl _;have hnd:=h.nd;unfold RC.K at hnd;have hPn:C.P∉C.bG::(C.gb++(lb++m)):=(List.nodup_cons.1 hnd).1;have hsub : ∀k,k∈C.K lb->k∈C.K (lb++m):=λk hk=>by
  unfold RC.K at hk ⊢;simp only[List.mem_cons,List.mem_append] at hk ⊢;rcases hk with h|h|h|h
  ·exact .inl h
  ·exact .inr (.inl h)
  ·exact .inr (.inr (.inl h))
  ·exact .inr (.inr (.inr (.inl h)))
 have hgb : ∀k (hk:k<C.gb.length),C.gb[k]≠C.P:=λk hk e=>hPn (e ▸ m_ _ (List.mem_append_left _ (g_ hk)));have hlb : ∀k (hk:k<(lb++m).length),(lb++m)[k]≠C.P:=λk hk e=>hPn (e ▸ m_ _ (List.mem_append_right _ (g_ hk)));have hGP:C.bG≠C.P:=λe=>hPn (e ▸ List.mem_cons_self ..);have hc : ∀o,(w.setCell ⟨C.P,3,none⟩ (.slice a lb.length cap)).cell? ⟨C.bG,o,none⟩=w.cell? ⟨C.bG,o,none⟩:=λo=>c_ (ht.block C.bG p2 hGP);have hbx:=h.box.set 3 (.slice a lb.length cap);have hown : ∀k,(Value.slice a lb.length cap).ownBlock=some k->(Value.slice a s.l.length cap).ownBlock=some k:=λk hk=>by
  cases a with
  | none=>cases hk
  | some a=>exact hk
 subst hs;refine⟨ht.below h.bel h.bel.size (λk hk=>by omega),hbx,λk h1 h2=>⟨(hc _).trans (h.grow k h1 h2).1,(hc _).trans (h.grow k h1 h2).2⟩,h.gl,λk h1=>(h.gw k h1).tcs (h.rng _ (RS.gK k h1)).2 ht (hgb k h1),h.g1,?_,?_,λj h1 h2 => ?_,h.inp,own_notU h.out ht (λk hk hs=>(h.oo k hk).1 (by have e:k=C.P:=hs;rw[e];exact RC.memP)),?_,λk hk=>⟨(h.rng k (hsub k hk)).1,l_ (h.rng k (hsub k hk)).2 ht.size⟩,λk hk hm=>h.lo k (hown k hk) (hsub k hm),λk hk=>⟨λhm=>(h.oo k hk).1 (hsub k hm),λe=>(h.oo k hk).2 (hown k e)⟩,⟨h.ok.g,λx hx=>h.ok.l x (List.mem_of_mem_take hx),h.ok.i⟩,h.uu,?_,h.nn⟩
 ·show lb.length=(s.l.take lb.length).length;rw[List.length_take];omega
 ·show World.ownsRow _ _ _ _ _ (s.l.take lb.length).length (flatV (s.l.take lb.length) lb);have e1:(s.l.take lb.length).length=lb.length:=by rw[List.length_take];omega
  have e2:flatV (s.l.take lb.length) lb=(flatV s.l (lb++m)).take (lb.length*2):=by
   rw[flatV_take lb.length h.ll];congr 1
   simp
  rw[e1,e2];exact own_notU (own_less h.lrow o_) ht (λk hk hs=>h.lo k (hown k hk) (by have e:k=C.P:=hs;rw[e];exact RC.memP))
 ·have h2:j<(s.l.take lb.length).length:=h2;have hj:j<(lb++m).length:=by rw[l_a];omega
  have hjs:j<s.l.length:=by rw[List.length_take] at h2;omega
  have e1:lb[j]=(lb++m)[j]:=(List.getElem_append_left h1).symm;show FrC _ lb[j] [.int .i64 ((s.l.take lb.length)[j]).2];rw[List.getElem_take,e1];exact (h.lw j hj hjs).tcs (h.rng _ (RS.lK j hj)).2 ht (hlb j hj)
 ·refine List.Nodup.sublist ?_ h.nd;unfold RC.K;exact List.Sublist.cons_cons _ (List.Sublist.cons_cons _ (List.Sublist.append (List.Sublist.refl _) (List.sublist_append_left _ _)))
 ·show (s.l.take lb.length).length<=_;have:=h.lm
  rw[List.length_take];omega
theorem lcut_run (a:Option Addr) (n cap k:Nat) (h2:k<=n) (h3:n<=cap) : ∀w:World,(Instr.slice 59 (.slice a n cap) none (some (.int .i64 (k:Int))) none).run prog w=.ok (.slice a k cap) w:=by
 intro w;have hz:prog.elem 59=65:=by kernel_rfl
 have hs:(sizeOf 65).run prog w=.ok 2 w:=by kernel_rfl
 rw[run_slice_h w 59 a n cap (by rw[hz];exact underlying59) .i64 _ o_ o_,hz,hs];cases a <;> simp[Result.andThen,sliced,Addr.add]
end
theorem own_cap {w:World} {B size n cap:Nat} {e:TypeId} {a:Option Addr} {xs:List Value} (h:w.ownsRow B e size (.slice a n cap) n xs):n<=cap:=by
 rcases h.2 with ⟨e1,e2⟩|⟨g,c2,cur,e1,p1,p2,p3,p4,p5,p6⟩
 ·omega
 ·simp only[Value.slice.injEq] at e1;obtain⟨-,-,rfl⟩:=e1;exact p3
theorem ev_seq {t:Tr} {fr:List Int} {j:Nat} {s:St} {q:List St} {z:ES} {r:ER} {z':ES} (h:Ev t fr j (.sq (s::q)) z r z'):(z.u=0/\r=.out 2/\z'=z)∨(0<z.u/\∃j1 r1 z1,j=j1+1/\Ev t fr j1 (.p s (q.take s.thn.toNat) ((q.drop s.thn.toNat).take s.els.toNat)) z.sp r1 z1/\((r1 ≠ .on/\r=r1/\z'=z1)∨(r1=.on/\Ev t fr j1 (.sq (q.drop (s.thn.toNat+s.els.toNat))) z1 r z'))):=by
 cases h using Ev_i with
 | sdry _ _ _ _ h1=>exact .inl ⟨h1,rfl,rfl⟩
 | send _ _ _ _ _ _ h1 h2 h3=>exact .inr ⟨h1,_,_,_,rfl,h2,.inl ⟨h3,rfl,rfl⟩⟩
 | next _ _ _ _ z1 _ _ h1 h2 h3=>exact .inr ⟨h1,_,_,_,rfl,h2,.inr ⟨rfl,h3⟩⟩
theorem TSx.up2 {C:RC} {N:Nat} {lb m:List Nat} {vL vO vL1 vO1:Value} (hm : ∀b∈m,N<=b) (ho : ∀k,vO1.ownBlock=some k->vO.ownBlock=some k∨N<=k) (hl : ∀k,vL1.ownBlock=some k->vL.ownBlock=some k∨N<=k) : ∀k,TSx C (lb++m) vL1 vO1 k->TSx C lb vL vO k∨N<=k:=λk hk=>by
 rcases hk with (hk|hk|hk)|hk|hk
 ·exact .inl (.inl (.inl hk))
 ·exact .inl (.inl (.inr (.inl hk)))
 ·exact (ho k hk).imp_left (λh=>.inl (.inr (.inr h)))
 ·rcases List.mem_append.1 hk with hk|hk
  ·exact .inl (.inr (.inl hk))
  ·exact .inr (hm k hk)
 ·exact (hl k hk).imp_left (λh=>.inr (.inr h))
def BI (C:RC) (n:Nat) (ss:List St) (r:ER) (z2:ES) (w:World) (lb:List Nat) (vL vO:Value) (i:Value) (wr:World):Prop:=∃(k:Nat) (vl1:Int) (m:List Nat) (vL1 vI1 vO1:Value) (zc:ES),i=.int .i64 k/\k<=ss.length/\(∀k,vO1.ownBlock=some k->vO.ownBlock=some k∨w.heap.size<=k)/\(∀k,vL1.ownBlock=some k->vL.ownBlock=some k∨w.heap.size<=k)/\(∀b∈m,w.heap.size<=b)/\Tcs (TSx C lb vL vO) w wr /\
  ((∃j,j<=n/\Ev C.t C.fr j (.sq (ss.drop k)) zc r z2/\RS C wr 0 false vl1 (lb++m) vL1 vI1 vO1 zc/\OkB C.t (zc.l.map Prod.fst) (ss.drop k)/\Scp C.t (zc.l.map Prod.fst)/\zc.l.length+zc.u<=200000)∨((decide (stR r=0) && !rtR r)=false/\RS C wr (stR r) (rtR r) vl1 (lb++m) vL1 vI1 vO1 z2/\∀v,r=.ret v->vl1=v))
theorem blS_step (C:RC) (hC:C.Ok) (n:Nat) (IS:StS C n):BlS C (n+1):=by
 intro ss z r z' hE hO hsc hlu w vl lb vL vI vO vs h hS;obtain⟨z2,hE2,hz'⟩ : ∃z2,Ev C.t C.fr n (.sq ss) z r z2/\z' = {z2 with l:=z2.l.take z.l.length}:=by
  cases hE using Ev_i with
  | blk _ _ _ _ z2 h1=>exact⟨z2,h1,rfl⟩
 obtain⟨ab,cb,rfl,hbc1,hbc2,hbc⟩:=hS;have HS:Hid (Stmts C.w0 (.slice ab ss.length cb) ss):=⟨ab,cb,rfl,hbc1,hbc2,hbc⟩;have HBC:=hide hbc;have hlb:=h.ll;have HRS:=hide h;have hln:=hO.ln;have HFb:=hide hC.fu;have HIS:=hide IS;have hzl:z.l.length<=200000:=h.lm;obtain⟨La0,Lc0,eL0,-⟩:=own_shapeU h.lrow;have y3:=(h.box 3 _ rfl).1;have HFin:Hid (∀(wX:World) (vlx:Int) (mx:List Nat) (vLx vIx vOx:Value),RS C wX (stR r) (rtR r) vlx (lb++mx) vLx vIx vOx z2->(∀v,r=.ret v->vlx=v)->Tcs (TSx C lb vL vO) w wX->(∀k,vOx.ownBlock=some k->vO.ownBlock=some k∨w.heap.size<=k)->(∀k,vLx.ownBlock=some k->vL.ownBlock=some k∨w.heap.size<=k)->∃La ll Lc,vLx=.slice La ll Lc/\wX.cell? ⟨C.P,3,none⟩=some (.slice La ll Lc)/\wX.frozen? ⟨C.P,3,none⟩=false/\(∀w:World,(Instr.slice 59 (.slice La ll Lc) none (some (.int .i64 (z.l.length:Int))) none).run prog w=.ok (.slice La z.l.length Lc) w)/\BlP C w lb vL vO r z' (.returned (.tuple #[])) (wX.setCell ⟨C.P,3,none⟩ (.slice La z.l.length Lc))):=λwX vlx mx vLx vIx vOx hR hv ht ho hl=>by
  obtain⟨La,Lc,rfl,-⟩:=own_shapeU hR.lrow;have hcap:=own_cap hR.lrow;have hll:=hR.ll;rw[l_a] at hll;refine⟨La,_,Lc,rfl,(hR.box 3 _ rfl).1,(hR.box 3 _ rfl).2,lcut_run La _ Lc _ o_ hcap,⟨_,rfl⟩,.slice La z.l.length Lc,vIx,vOx,vlx,?_,hv,ht.setCell (p:=⟨C.P,3,none⟩) (.inl (.inl rfl)) _,ho,λk hk=>hl k ?_⟩
  ·have:=hR.cutL rfl (s':=z') (by rw[hz',<-hlb])
   rw[hlb] at this;exact this
  ·cases La with
   | none=>cases hk
   | some a=>exact hk
 subst eL0;have HO:=hide hO;have HSc:=hide hsc;have HE:=hide hE2;clear IS hE hC hO hsc hbc hE2 h hz';go_enter func63,ntmps63;go_wp2;go_loopw [5] (λi wr=>BI C n ss r z2 w lb (.slice La0 z.l.length Lc0) vO i wr) (λi _=>ss.length-(RowKit.intOf i).toNat)
 case atStart=>exact⟨0,vl,[],_,vI,vO,z,rfl,y_,λk hk=>.inl hk,λk hk=>.inl hk,λb hb=>by simp at hb,Tcs.refl _ _,.inl ⟨n,n_,HE,by simpa using HRS.o,HO,HSc,hlu⟩⟩
 case round=>
  clear HO HSc HE hlu y3;obtain⟨k,vl1,m,vL1,vI1,vO1,zc,rfl,hk,ho,hl,hm,ht,hst⟩:=hrel;have HHo:=hide ho;have HHl:=hide hl;have HHm:=hide hm;have HHt:=hide ht;have hws:w.heap.size<=wr.heap.size:=ht.size;clear ho hl hm ht;by_cases hlt:k<ss.length
  ·have hki:(k:Int)<(ss.length:Int):=by omega
   rcases hst with ⟨j,hj,he,hR,hOk,hSc,hL⟩|⟨hg,hR,hv⟩
   ·obtain⟨b,off,rfl,hc⟩:=HBC.o o_;obtain⟨ve,vf2,⟨c0,c1,c2,c3,c4,c5⟩,hne,hnf⟩:=hc k hlt;have hbw:b<C.w0.heap.size:=b_ c0;replace c0:=(hR.bel.cell (p:=⟨b,_,none⟩) hbw).trans c0
    replace c1:=(hR.bel.cell (p:=⟨b,_,none⟩) hbw).trans c1
    replace c2:=(hR.bel.cell (p:=⟨b,_,none⟩) hbw).trans c2
    replace c3:=(hR.bel.cell (p:=⟨b,_,none⟩) hbw).trans c3
    replace c4:=(hR.bel.cell (p:=⟨b,_,none⟩) hbw).trans c4
    replace c5:=(hR.bel.cell (p:=⟨b,_,none⟩) hbw).trans c5
    have hbr:b<wr.heap.size:=l_ hbw hR.bel.size;have hdc:ss.drop k=ss[k]::ss.drop (k+1):=(List.getElem_cons_drop hlt).symm;rw[hdc] at he hOk;have hsB:=hOk.ok ss[k] (List.mem_cons_self ..);obtain⟨hKn,h45,hOr,p1,p2,p3,p4⟩:=hOk.cons;have hrl:(ss.drop (k+1)).length=ss.length-(k+1):=by simp
    rw[hrl] at p2 p4;obtain⟨a3,k3,hv3,-⟩:=id hne;obtain⟨a4,k4,hv4,-⟩:=id hnf;subst hv3;subst hv4;clear hc hdc;generalize ss[k]=s at c0 c1 c2 c3 c4 c5 he hOk hsB hKn h45 hOr p1 p2 p3 p4 hne hnf;obtain⟨tn,htn⟩:=Int.eq_ofNat_of_zero_le p1;obtain⟨ln,hln2⟩:=Int.eq_ofNat_of_zero_le p3;have ht1:s.thn.toNat=tn:=by omega
    have ht2:s.els.toNat=ln:=by omega
    have hltn:k+1+tn<=ss.length:=by omega
    have hlln:k+1+tn+ln<=ss.length:=by omega
    obtain⟨a5,k5,hr5,hs5⟩ : ∃a5 k5,(∀w:World,(Instr.slice 95 (.slice (some ⟨b,off,none⟩) ss.length cb) (some (.int .i64 ((k:Int)+1))) (some (.int .i64 ((k:Int)+1+(tn:Int)))) none).run prog w=.ok (.slice a5 tn k5) w)/\Stmts C.w0 (.slice a5 tn k5) ((ss.drop (k+1)).take tn):=by
     have h:=cut_run2 (some ⟨b,off,none⟩) ss.length cb (k+1) (k+1+tn) o_ o_ o_ ((k:Int)+1) ((k:Int)+1+(tn:Int)) o_ o_;have h':=HS.o.cut (k+1) (k+1+tn) o_ o_;rw[show k+1+tn-(k+1)=tn by omega] at h h';rw[List.drop_take,show k+1+tn-(k+1)=tn by omega] at h';exact⟨_,_,h,h'⟩
    obtain⟨a6,k6,hr6,hs6⟩ : ∃a6 k6,(∀w:World,(Instr.slice 95 (.slice (some ⟨b,off,none⟩) ss.length cb) (some (.int .i64 ((k:Int)+1+(tn:Int)))) (some (.int .i64 ((k:Int)+1+(tn:Int)+(ln:Int)))) none).run prog w=.ok (.slice a6 ln k6) w)/\Stmts C.w0 (.slice a6 ln k6) (((ss.drop (k+1)).drop tn).take ln):=by
     have h:=cut_run2 (some ⟨b,off,none⟩) ss.length cb (k+1+tn) (k+1+tn+ln) o_ o_ o_ ((k:Int)+1+(tn:Int)) ((k:Int)+1+(tn:Int)+(ln:Int)) o_ o_;have h':=HS.o.cut (k+1+tn) (k+1+tn+ln) o_ o_;rw[show k+1+tn+ln-(k+1+tn)=ln by omega] at h h';rw[List.drop_take,show k+1+tn+ln-(k+1+tn)=ln by omega] at h';rw[List.drop_drop];exact⟨_,_,h,h'⟩
    obtain⟨B0,hB0⟩ : ∃B0,B0=wr.alloc (.cells #[.int .i64 s.kind,.string s.name,.slice a3 s.e.length k3,.slice a4 s.f.length k4,.int .i64 tn,.int .i64 ln] 132):=⟨_,rfl⟩;obtain⟨M,hM⟩ : ∃M,M=wr.heap.size:=⟨_,rfl⟩;have hbB:Bl wr B0:=by rw[hB0];exact r_.alloc n_ _
    have hMB:M<B0.heap.size:=by rw[hB0,hM,World.size_alloc];omega
    have hfr:FrC B0 M [.int .i64 s.kind,.string s.name,.slice a3 s.e.length k3,.slice a4 s.f.length k4,.int .i64 tn,.int .i64 ln]:=by
     rw[hB0,hM];exact box_fr wr #[.int .i64 s.kind,.string s.name,.slice a3 s.e.length k3,.slice a4 s.f.length k4,.int .i64 tn,.int .i64 ln] _ (by show 6<=1000;omega)
    have HRc:=hide hR;have HRB:=hide (hR.below hbB);have hPM:C.P<M:=by rw[hM];exact hR.hi.1
    have HFr:=hide hfr;have HT0:=hide (HHt.o.of_below hbB);have hw2:IntKind.i64.wrap ((k:Int)+1)=(k:Int)+1:=by simp[IntKind.wrap,IntKind.bits,IntKind.signed];omega
    have hw3:IntKind.i64.wrap ((k:Int)+1+(tn:Int))=(k:Int)+1+(tn:Int):=by simp[IntKind.wrap,IntKind.bits,IntKind.signed];omega
    have hw6:IntKind.i64.wrap ((k:Int)+1+(tn:Int)+(ln:Int))=(k:Int)+1+(tn:Int)+(ln:Int):=by simp[IntKind.wrap,IntKind.bits,IntKind.signed];omega
    rw[htn] at c4;rw[hln2] at c5;have HEv:=hide he;have HSb:=hide hsB;have HKn:=hide hKn;have H45:=hide h45;have HOr:=hide hOr;have HSc:=hide hSc;have HL:=hide hL;have HTN:=hide (And.intro ht1 ht2);have HS5:=hide hs5;have HS6:=hide hs6;have HNe:=hide hne;have HNf:=hide hnf;have HJ:=hide hj;have HMw:=hide hM;clear he hsB hKn h45 hOr hSc hL hs5 hs6 hne hnf hOk p1 p2 p3 p4 htn hln2 ht1 ht2 hR hbB hfr hj;go_wp2_with fail;refine (going_any HRc).mono ?_;rintro x w2 ⟨rfl,hw2'⟩;rw[hw2'];clear hw2';go_wp2_with fail;rw[<-hB0,<-hM];clear hB0 hM c0 c1 c2 c3 c4 c5 hr5 hr6;rcases ev_seq HEv.o with ⟨hu0,rfl,rfl⟩|⟨hu0,j1,r1,z1,rfl,hp,hr⟩
    ·refine (spend0 HRB.o hu0).mono ?_;rintro x w3 ⟨⟨y,rfl⟩,hR3,t3⟩;have y8:=(hR3.box 8 _ rfl).1;obtain⟨La,ll,Lc,rfl,x3,f3,hcut,hB⟩:=HFin.o w3 vl1 m vL1 vI1 vO1 hR3 (λv hv=>by cases hv) (HT0.o.next t3 (λk hk=>.inl (.inl (.inl hk)))) HHo.o HHl;have HF:=hide hB;clear hB hR3 t3;go_wp2_with fail;exact bodyPost_end (v:=.tuple #[]) (by simp[results,results63,go_sem]) rfl HF
    ·refine (spend1 HRB.o hu0 HFb).mono ?_;rintro x w3 ⟨⟨y,rfl⟩,hR3,t3⟩;have y8:=(hR3.box 8 _ rfl).1;have hfr3:=HFr.o.tcs hMB t3 (λe=>by omega);have q0:=(hfr3 0 _ rfl).1;have q1:=(hfr3 1 _ rfl).1;have q2:=(hfr3 2 _ rfl).1;have q3:=(hfr3 3 _ rfl).1;have q4:=(hfr3 4 _ rfl).1;have q5:=(hfr3 5 _ rfl).1;have hT3:=HT0.o.next t3 (λk hk=>.inl (.inl (.inl hk)));have hM3:M<w3.heap.size:=l_ hMB t3.size;have hjj:=HJ.o;have hsu:zc.sp.u+1=zc.u:=by simp only[ES.sp];omega
     have hTN:=HTN.o;have hpp:=hp;rw[hTN.1,hTN.2] at hpp hr;have h45:=H45.o;rw[hTN.1,hTN.2] at h45;have hOr:=HOr.o;rw[hTN.1,hTN.2] at hOr;have hcall:=HIS.o s _ _ zc.sp r1 z1 (hpp.ups o_) HKn.o HSc.o HSb.o.1 HSb.o.2.1 HSb.o.2.2 h45 (by have:=HRc.o.uu.2;have e:zc.sp.o=zc.o:=rfl;rw[e];omega) (by have:=HL.o;have e:zc.sp.l=zc.l:=rfl;rw[e];omega) w3 vl1 (lb++m) vL1 vI1 vO1 _ _ _ _ (tn:Int) (ln:Int) hR3 HNe.o HNf.o HS5.o HS6;have HPost:Hid (∀x w4,PaP C w3 (lb++m) vL1 vO1 r1 z1 x w4->(∃y,x=.returned y)/\w4.cell? ⟨M,4,none⟩=some (.int .i64 tn)/\w4.cell? ⟨M,5,none⟩=some (.int .i64 ln)/\BI C n ss r z2 w lb (.slice La0 z.l.length Lc0) vO (.int .i64 ((k+1+tn+ln:Nat):Int)) w4):=λx w4 hx=>by
      obtain⟨hy,lb4,vL4,vI4,vO4,vl4,hR4,hv4,⟨m4,rfl,hm4⟩,t4,ho4,hl4⟩:=hx;have hfr4:=hfr3.tcs hM3 t4 (λe=>by have:=TSx.lt HRc.o _ e;have:=HMw.o;omega);have hw3s:w.heap.size<=w3.heap.size:=hT3.size;refine⟨hy,(hfr4 4 _ rfl).1,(hfr4 5 _ rfl).1,k+1+tn+ln,vl4,m++m4,vL4,vI4,vO4,z1,rfl,hlln,λk hk => ?_,λk hk => ?_,λb hb => ?_,hT3.next t4 (TSx.up2 HHm.o HHo.o HHl),?_⟩
      ·rcases ho4 k hk with h1|h1
       ·exact HHo.o k h1
       ·exact .inr (t_ hw3s h1)
      ·rcases hl4 k hk with h1|h1
       ·exact HHl.o k h1
       ·exact .inr (t_ hw3s h1)
      ·rcases List.mem_append.1 hb with hb|hb
       ·exact HHm.o b hb
       ·exact t_ hw3s (hm4 b hb)
      ·rw[List.append_assoc] at hR4;rcases hr with ⟨hne,rfl,rfl⟩|⟨rfl,hsq⟩
       ·refine .inr ⟨?_,hR4,hv4⟩;cases r using ER.cs with
        | val v=>exact absurd rfl (hp.nov rfl v)
        | on=>exact absurd rfl hne
        | ret v=>rfl
        | out c=>rcases hp.outc c rfl with rfl|rfl <;> rfl
       ·have hnm0:z1.l.map Prod.fst=scp s (zc.sp.l.map Prod.fst):=ev_names _ hp hR3.ok;have hnm:z1.l.map Prod.fst=scp s (zc.l.map Prod.fst):=hnm0;refine .inl ⟨j1,by omega,?_,hR4,?_,?_,?_⟩
        ·rw[List.drop_drop] at hsq;rw[show k+1+tn+ln=k+1+(tn+ln) by omega];exact hsq
        ·rw[hnm,show k+1+tn+ln=k+1+(tn+ln) by omega,<-List.drop_drop];exact hOr
        ·rw[hnm];exact HSc.o.add HKn
        ·have h1:=hp.ou.2.2;have h2:=HL.o;simp only[Tk.d] at h1;have e:zc.sp.l=zc.l:=rfl;rw[e] at h1;omega
     have HCs:=hide hcall.1;have HCn:=hide hcall.2;clear hcall hR3 t3 hfr3 hT3 hpp hp hr h45 hOr hTN hsu hjj HEv;by_cases hk3:s.kind=3
     ·have HC3:=hide (HCs.o hk3);rw[hk3] at q0 HC3;clear hk3 HCs HCn;go_wp2_with fail;refine HC3.o.mono ?_;intro x w4 hx;obtain⟨⟨y,rfl⟩,q4,q5,hBI⟩:=HPost.o x w4 hx;have HBI:=hide hBI;clear hBI hx q0 q1 q2 q3;go_wp2;go_roundw
      case rel=>
       have:=HBI.o
       rw[show ((k+1+tn+ln:Nat):Int)=(k:Int)+1+(tn:Int)+(ln:Int) by omega] at this;exact this
      case measure=>simp[RowKit.intOf];omega
     ·have HC3:=hide (HCn.o hk3);have hk3':(s.kind == 3)=false:=by simpa using hk3
      clear hk3 HCs HCn;go_wp2_with fail;refine HC3.o.mono ?_;intro x w4 hx;obtain⟨⟨y,rfl⟩,q4,q5,hBI⟩:=HPost.o x w4 hx;have HBI:=hide hBI;clear hBI hx q0 q1 q2 q3;go_wp2;go_roundw
      case rel=>
       have:=HBI.o
       rw[show ((k+1+tn+ln:Nat):Int)=(k:Int)+1+(tn:Int)+(ln:Int) by omega] at this;exact this
      case measure=>simp[RowKit.intOf];omega
   ·obtain⟨La,ll,Lc,rfl,x3,f3,hcut,hB⟩:=HFin.o wr vl1 m vL1 vI1 vO1 hR hv HHt.o HHo.o HHl;have HF:=hide hB;have HRc:=hide hR;clear hB hR hv;go_wp2_with fail;refine (going_any HRc).mono ?_;rintro x w2 ⟨rfl,hw2⟩;rw[hw2,hg];clear hw2;go_wp2_with fail;exact bodyPost_end (v:=.tuple #[]) (by simp[results,results63,go_sem]) rfl HF
  ·obtain rfl:k=ss.length:=by omega
   have hfin:RS C wr (stR r) (rtR r) vl1 (lb++m) vL1 vI1 vO1 z2/\∀v,r=.ret v->vl1=v:=by
    rcases hst with ⟨j,hj,he,hR,hOk,hSc,hL⟩|⟨hg,hR,hv⟩
    ·rw[List.drop_length] at he;cases he using Ev_i with
     | nil=>exact⟨hR,λv hv=>by cases hv⟩
    ·exact⟨hR,hv⟩
   obtain⟨La,ll,Lc,rfl,x3,f3,hcut,hB⟩:=HFin.o wr vl1 m vL1 vI1 vO1 hfin.1 hfin.2 HHt.o HHo.o HHl;have HF:=hide hB;have hki : ¬(ss.length:Int)<(ss.length:Int):=by omega
   clear hB hfin hst;go_wp2_with fail;exact bodyPost_end (v:=.tuple #[]) (by simp[results,results63,go_sem]) rfl HF
section
variable {C:RC} {w:World} {c vl:Int} {rt:Bool} {lb:List Nat} {vL vI vO:Value} {s s':ES}
theorem RS.swap {lb2:List Nat} {vL2:Value} {l2:List (ByteArray × Int)} (h:RS C w c rt vl lb vL vI vO s) (hs:s' = {s with l:=l2}) (hll:lb2.length=l2.length)
  (hrow:w.ownsRow C.w0.heap.size 65 2 vL2 l2.length (flatV l2 lb2)) (hlw : ∀j (hj:j<lb2.length) (hl:j<l2.length),FrC w lb2[j] [.int .i64 l2[j].2]) (hnd:(C.K lb2).Nodup) (hrng : ∀k∈C.K lb2,C.w0.heap.size<=k/\k<w.heap.size) (hlo : ∀k,vL2.ownBlock=some k->k∉C.K lb2) (hoo : ∀k,vO.ownBlock=some k->k∉C.K lb2/\vL2.ownBlock≠some k) (hlm:l2.length<=200000) (hok : ∀x∈l2,inB x.2) :
  RS C (w.setCell ⟨C.P,3,none⟩ vL2) c rt vl lb2 vL2 vI vO s':=by
 obtain⟨p1,p2,p3,p4⟩:=h.hi;have ht:Tcs (λk=>k=C.P) w (w.setCell ⟨C.P,3,none⟩ vL2):=(Tcs.refl (λk=>k=C.P) w).setCell (p:=⟨C.P,3,none⟩) rfl _;have hnd0:=hnd;unfold RC.K at hnd0;have hPn:C.P∉C.bG::(C.gb++lb2):=(List.nodup_cons.1 hnd0).1;have hgb : ∀k (hk:k<C.gb.length),C.gb[k]≠C.P:=λk hk e=>hPn (e ▸ m_ _ (List.mem_append_left _ (g_ hk)));have hlb : ∀k (hk:k<lb2.length),lb2[k]≠C.P:=λk hk e=>hPn (e ▸ m_ _ (List.mem_append_right _ (g_ hk)));have hGP:C.bG≠C.P:=λe=>hPn (e ▸ List.mem_cons_self ..);have hc : ∀o,(w.setCell ⟨C.P,3,none⟩ vL2).cell? ⟨C.bG,o,none⟩=w.cell? ⟨C.bG,o,none⟩:=λo=>c_ (ht.block C.bG p2 hGP);have hbx:=h.box.set 3 vL2;subst hs;exact⟨ht.below h.bel h.bel.size (λk hk=>by omega),hbx,λk h1 h2=>⟨(hc _).trans (h.grow k h1 h2).1,(hc _).trans (h.grow k h1 h2).2⟩,h.gl,λk h1=>(h.gw k h1).tcs (h.rng _ (RS.gK k h1)).2 ht (hgb k h1),h.g1,hll,own_notU hrow ht (λk hk hs=>hlo k hk (by have e:k=C.P:=hs;rw[e];exact RC.memP)),λj h1 h2=>(hlw j h1 h2).tcs (hrng _ (RS.lK j h1)).2 ht (hlb j h1),h.inp,own_notU h.out ht (λk hk hs=>(h.oo k hk).1 (by have e:k=C.P:=hs;rw[e];exact RC.memP)),hnd,λk hk=>⟨(hrng k hk).1,l_ (hrng k hk).2 ht.size⟩,hlo,hoo,⟨h.ok.g,hok,h.ok.i⟩,h.uu,hlm,h.nn⟩
theorem RS.enter (h:RS C w c rt vl lb vL vI vO s):RS C ((w.alloc (.cells #[] 65)).setCell ⟨C.P,3,none⟩ (.slice (some ⟨w.heap.size,0,none⟩) 0 0)) c rt vl [] (.slice (some ⟨w.heap.size,0,none⟩) 0 0) vI vO {s with l:=[]}:=by
 have hb:Bl w (w.alloc (.cells #[] 65)):=bel_a _ _;have hA:=h.below hb;have hsub : ∀k,k∈C.K []->k∈C.K lb:=λk hk=>by
  unfold RC.K at hk ⊢;simp only[List.mem_cons,List.mem_append,List.not_mem_nil,or_false] at hk ⊢;rcases hk with h|h|h
  ·exact .inl h
  ·exact .inr (.inl h)
  ·exact .inr (.inr (.inl h))
 refine hA.swap (l2:=[]) rfl rfl ?_ (λj hj=>by simp at hj) ?_ (λk hk=>hA.rng k (hsub k hk)) (λk hk hm => ?_) (λk hk=>⟨λhm=>(h.oo k hk).1 (hsub k hm),λe => ?_⟩) (by simp) (λx hx=>by simp at hx)
 ·have:=World.ownsRow_lit (e:=65) (size:=2) w #[] 0 n_ (by decide) rfl
  refine⟨rfl,.inr ?_⟩;obtain⟨-,⟨e,-⟩|⟨g,cap,cur,e,q1,q2,q3,q4,q5,q6⟩⟩:=this
  ·cases e
  ·exact⟨g,cap,cur,e,by have:w.heap.size<=g:=q1;have:=h.bel.size;omega,q2,q3,q4,q5,q6⟩
 ·refine List.Nodup.sublist ?_ h.nd;unfold RC.K;exact List.Sublist.cons_cons _ (List.Sublist.cons_cons _ (List.Sublist.append (List.Sublist.refl _) (List.nil_sublist _)))
 ·have e:w.heap.size=k:=by simpa[Value.ownBlock] using hk
  have:=(h.rng k (hsub k hm)).2
  omega
 ·have e:w.heap.size=k:=by simpa[Value.ownBlock] using e
  have:=(World.ownsRow.lt h.out k hk).2
  omega
theorem RS.leave {w':World} {c':Int} {rt':Bool} {vl':Int} {lb1:List Nat} {vL1 vI1 vO1:Value} {s1:ES} {S:Nat->Prop} (h:RS C w c rt vl lb vL vI vO s) (h1:RS C w' c' rt' vl' lb1 vL1 vI1 vO1 s1) (ht:Tcs S w w') (hS : ∀k,S k->k∉lb/\vL.ownBlock≠some k) (ho : ∀k,vO1.ownBlock=some k->vO.ownBlock=some k∨w.heap.size<=k) (hs:s' = {s1 with l:=s.l}) :
  RS C (w'.setCell ⟨C.P,3,none⟩ vL) c' rt' vl' lb vL vI1 vO1 s':=by
 refine h1.swap hs h.ll (own_notU h.lrow ht (λk hk hs=>(hS k hs).2 hk)) (λj hj hl=>(h.lw j hj hl).tcs (h.rng _ (RS.lK j hj)).2 ht (λhs=>(hS _ hs).1 (g_ hj))) h.nd (λk hk=>⟨(h.rng k hk).1,l_ (h.rng k hk).2 ht.size⟩) h.lo (λk hk => ?_) h.lm h.ok.l;rcases ho k hk with h2|h2
 ·exact h.oo k h2
 ·exact⟨λhm=>by have:=(h.rng k hm).2;omega,λe=>by have:=(World.ownsRow.lt h.lrow k e).2;omega⟩
end
end Go.Proofs.YtffnkkpmlplfeaaGreatDoor
