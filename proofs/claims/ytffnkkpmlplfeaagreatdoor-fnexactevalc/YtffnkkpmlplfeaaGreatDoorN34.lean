import Derived.Test.YtffnkkpmlplfeaaGreatDoorN33
import Derived.Deep.RegionHeld3
namespace Go.Proofs.YtffnkkpmlplfeaaGreatDoor
open Go.Proofs.Tryz
open Go.RowKit
set_option linter.all false
set_option maxRecDepth 100000
set_option maxHeartbeats 16000000
variable[Inhabited Pick]
section
variable {α:Type} {t:Tr} {sc:List ByteArray} {a:List Nd} {n:Nd}
theorem split_at_ (l:List α) (j:Nat) (h:j<l.length):l=l.take j++l[j]::l.drop (j+1):=by
 rw[List.getElem_cons_drop,List.take_append_drop]
theorem split_at2 (l r:List α) (j:Nat) (h:j<l.length):l++r=l.take j++l[j]::(l.drop (j+1)++r):=by
 calc l++r=(l.take j++l[j]::l.drop (j+1))++r:=by rw[<-split_at_ l j h]
  _=_:=by rw[List.append_assoc,List.cons_append]
theorem exprE_more (h:exprE t sc a=0) (hn:nodeE t sc n=0):exprE t sc (a++[n])=0:=by
 rw[exprE_append,if_pos h];simp[exprE,hn]
theorem exprE_stop {r:List Nd} (h:exprE t sc a=0) (hn:nodeE t sc n≠0):exprE t sc (a++n::r)=nodeE t sc n:=by
 rw[exprE_append,if_pos h];simp[exprE,hn]
theorem stmtK {E:CkV} {w:World} {bsn:List (List ByteArray)} {xs:List ByteArray} {bi:List Nat} {b:Nat} {v:Value} {bt:Nat} {tk:List ByteArray} {fn st:Int} (h:Cs E w (bsn++[xs]) (bi++[b]) v bt tk fn st) (hgf:E.gf=globF E.t.globals) (hgp:E.gp=λs=>decide (0<=globI E.t.globals s)) (hp : ∀g∈E.t.globals,0<=g.size) (hfl:E.t.funcs.length<=1048576)
  (s:St) (ve vf:Value) (he:Nodes w ve s.e) (hf:Nodes w vf s.f) (hsm:smallS s) (hwf:wfSt s) (htk:tk.length<=1000000) (hxs:xs.length<=1000000) :
  Calls prog 201 #[.pointer (some ⟨E.C,0,none⟩),.agg #[.int .i64 s.kind,.string s.name,ve,vf,.int .i64 s.thn,.int .i64 s.els]] w λe w'=>e=.returned (errV (stmtE E.t (bsn++[xs]).flatten tk s) fn st) /\
   (∃xs' tk',Cs E w' (bsn++[xs']) (bi++[b]) v bt tk' fn st/\(stmtE E.t (bsn++[xs]).flatten tk s=0->xs'=scp s xs/\tk'=scp s tk))/\Tcs (λk=>k=bt∨k=b) w w':=by
 obtain⟨sc,hsc⟩ : ∃sc,sc=(bsn++[xs]).flatten:=⟨_,rfl⟩;rw[<-hsc];have HSC:=hide hsc;clear hsc;obtain⟨HCs,HNe,HNf,HS,HWs,HGF⟩:=h6 h he hf hsm hwf hgf;have HGP:Hid (∀s,(E.gp s=true)=(0<=globI E.t.globals s)):=λs=>by rw[hgp];simp
 have HP:=hide hp;obtain⟨ae,ce,rfl,-⟩:=he;obtain⟨af,cf,rfl,-⟩:=hf;have hZ0:s.name.size<=maxLen:=by have:=hwf.1;unfold maxLen;omega
 clear h hsm hwf hp hgf hgp;go_enter func201,ntmps201;go_wp2_with fail;refine (exprs_any _ _ _ _ _ _ _ _ _ _ _).mono ?_;rintro e w1 ⟨rfl,hb1⟩;simp only[World.size_alloc] at hb1;have HB1:=hide hb1;clear hb1;go_wp2;go_loopw [13] (λi w2=>∃(m:Nat),m<=2/\i=.int .i64 m/\exprE E.t sc (upTo s m)=0/\Below (w.heap.size+1) (w.alloc (.cells #[.int .i64 s.kind,.string s.name,.slice ae s.e.length ce,.slice af s.f.length cf,.int .i64 s.thn,.int .i64 s.els] 132)) w2) (λi _=>2-(RowKit.intOf i).toNat)
 case atStart=>exact⟨0,y_,rfl,rfl,HB1⟩
 case round=>
  obtain⟨m,hm,rfl,hz,hB⟩:=hrel;have HZ:=hide hz;clear HB1 hz;by_cases hm2:m<2
  ·obtain⟨va,el,ca,hidx,hel,hnext,⟨rest,hrest⟩,hll,hwfs⟩ : ∃(va:Option Addr) (el:List Nd) (ca:Nat),(∀W,(Instr.index 244 (.agg #[.slice ae s.e.length ce,.slice af s.f.length cf]) (.int .i64 (m:Int))).run prog W=.ok (.slice va el.length ca) W)/\Nodes w (.slice va el.length ca) el/\upTo s (m+1)=upTo s m++el/\(∃rest,s.e++s.f=upTo s m++el++rest)/\el.length<=1048576/\(∀n∈el,n.name.size<=9223372036854775807):=by
    have h01:m=0∨m=1:=by omega
    rcases h01 with rfl|rfl
    ·exact⟨ae,s.e,ce,λW=>idx0 _ _ W,HNe,by simp[upTo],⟨s.f,by simp[upTo]⟩,HS.o.1,HWs.o.2.1.2⟩
    ·exact⟨af,s.f,cf,λW=>idx1 _ _ W,HNf,by simp[upTo],⟨[],by simp[upTo]⟩,HS.o.2,HWs.o.2.2.2⟩
   obtain⟨HX,HRe,HWn⟩:=h3 hnext hrest hwfs;generalize upTo s m=mid at HZ HX HRe;obtain⟨_,_,he0,-,-,hec⟩:=hel;simp only[Value.slice.injEq] at he0;obtain⟨rfl,-,rfl⟩:=he0;have HEC:=hide hec;clear hec hnext hwfs hrest;have hm2d:decide ((m:Int)<2)=true:=by rw[decide_eq_true_iff];omega
   go_wp2;go_loopw [18] (λi w4=>∃(j:Nat),j<=el.length/\i=.int .i64 j/\exprE E.t sc (mid++el.take j)=0/\Below (w.heap.size+1) (w.alloc (.cells #[.int .i64 s.kind,.string s.name,.slice ae s.e.length ce,.slice af s.f.length cf,.int .i64 s.thn,.int .i64 s.els] 132)) w4) (λi _=>el.length-(RowKit.intOf i).toNat)
   case atStart=>exact⟨0,y_,rfl,by simpa using HZ.o,hB⟩
   case round=>
    clear hidx hB;obtain⟨j,hj,rfl,hz4,hB⟩:=hrel;have HZ4:=hide hz4;clear hz4;have hBw:=one_below hB;by_cases hjl:j<el.length
    ·obtain⟨bn,on,rfl,hcn⟩:=HEC o_;obtain⟨c0,c1,c2⟩:=(hcn.below hBw) j hjl;have HNm:Hid (el[j].name.size<=maxLen):=by
      have:=HWn.o el[j] (g_ hjl)
      show _<=_;unfold maxLen;omega
     have HT:Hid (mid++el.take (j+1)=mid++el.take j++[el[j]]):=by show _=_;rw[take_succ el j hjl];simp
     have HL:Hid (s.e++s.f=mid++el.take j++el[j]::(el.drop (j+1)++rest)):=by
      show _=_;rw[HRe.o,List.append_assoc,split_at2 el rest j hjl,List.append_assoc]
     clear hcn;generalize el[j]=n at c0 c1 c2 HNm HT HL;have hBa:Bl w (wr.alloc (.cells #[.int .i64 n.kind,.int .i64 n.val,.string n.name] 134)):=hBw.alloc hBw.size _;have hsz:=hB.size;simp only[World.size_alloc] at hsz;go_wp2_with fail;refine (nodeK_any ((HCs.o.below hBa).ck HGF) HP hfl n HNm).mono ?_;rintro e w5 ⟨rfl,hb5⟩;simp only[World.size_alloc] at hb5;rw[<-HSC.o];have hB5:Below (w.heap.size+1) (w.alloc (.cells #[.int .i64 s.kind,.string s.name,.slice ae s.e.length ce,.slice af s.f.length cf,.int .i64 s.thn,.int .i64 s.els] 132)) w5:=hB.trans ((one_below hb5).mono hsz);clear hb5 c0 c1 c2 hBa hB hBw;by_cases hn:nodeE E.t sc n=0
     ·have HN:=hide hn;rw[hn,errV_zero];clear hn;go_wp2;go_roundw
      case rel=>exact⟨j+1,by omega,by go_num,by rw[HT.o];exact exprE_more HZ4 HN,hB5⟩
      case measure=>simp[RowKit.intOf];omega
     ·have HN:Hid (stmtE E.t sc tk s=nodeE E.t sc n):=by
       have e1:exprE E.t sc (s.e++s.f)=nodeE E.t sc n:=by rw[HL.o];exact exprE_stop HZ4 hn
       show _=_;rw[stmtE_expr (by rw[e1];exact hn),e1]
      have HN0:=hide hn;rw[errV_ne hn];generalize nodeE E.t sc n=z at HN HN0 ⊢;clear hn;go_wp2;go_ret;exact⟨ret_val (by rw[HN.o,errV_ne HN0.o];rfl),⟨xs,tk,HCs.o.below (one_below hB5),λh=>absurd (HN.o.symm.trans h) HN0⟩,(one_below hB5).tcs⟩
    ·have HD:Hid (upTo s (m+1)=mid++el.take j):=by show _=_;rw[HX.o,List.take_of_length_le o_]
     go_wp2;go_roundw
     case rel=>exact⟨m+1,by omega,by go_num,by rw[HD.o];exact HZ4,hB⟩
     case measure=>simp[RowKit.intOf];omega
  ·have HQ:Hid (exprE E.t sc (s.e++s.f)=0):=by
    have:=HZ.o
    have hm':m=2:=by omega
    subst hm';exact this
   clear HZ;have hBw:=one_below hB;obtain⟨x0,x1,-⟩:=box6 hB;have hm2d:decide ((m:Int)<2)=false:=by rw[decide_eq_false_iff_not];omega
   by_cases hk1:s.kind=1
   ·have hk1':=hk1;rw[hk1] at x0;by_cases hx:inS tk s.name=true∨0<=globI E.t.globals s.name
    ·have HE:Hid (stmtE E.t sc tk s=2):=by show _=_;rw[stmtE_decl HQ.o hk1,if_pos hx]
     have HX:=hide hx;clear hx;go_wp2_with fail;refine (takeOld (HCs.o.below hBw) hZ0 (by rw[HGP.o];exact HX)).mono ?_;rintro e w2 ⟨rfl,hw⟩;rw[hw,errV_ne (by decide)];clear hw;go_wp2;go_ret;exact⟨ret_val (by rw[HE.o];rfl),⟨xs,tk,HCs.o.below hBw,λh=>absurd (HE.o.symm.trans h) (by decide)⟩,hBw.tcs⟩
    ·have HE:Hid (stmtE E.t sc tk s=0):=by show _=_;rw[stmtE_decl HQ.o hk1,if_neg hx]
     have HX:=hide hx;clear hx;go_wp2_with fail;refine (takeNew (HCs.o.below hBw) hZ0 o_ (by rw[HGP.o];exact HX)).mono ?_;rintro e w2 ⟨rfl,hc2,ht2⟩;obtain⟨HC2,HT2⟩:=h2 hc2 ht2;have hne:w.heap.size≠bt:=by have:=HCs.o.lt bt (by simp);omega
     have hsz:=hB.size;simp only[World.size_alloc] at hsz;have y1:w2.cell? ⟨w.heap.size,1,none⟩=some (.string s.name):=(c_ (a:=⟨w.heap.size,1,none⟩) (HT2.o.block w.heap.size o_ hne)).trans x1;have HL2:Hid (w.heap.size<w2.drew.heap.size):=l_ o_ HT2.o.size;have HN2:Hid (¬w.heap.size=b):=by have:=HCs.o.lt b (by simp);show ¬_;omega
     clear hc2 ht2 x0 x1;go_wp2_with fail;go_region_held3 (λW=>W.cell? ⟨w.heap.size,1,none⟩=some (.string s.name)) (go_simp)
      (first
      | (go_at_call 138;refine (addK (HC2.o.below (r_.drew)) hZ0 o_).mono ?_;rintro e w3 ⟨⟨u,rfl⟩,hc3,ht3⟩;have hcc:w3.cell? ⟨w.heap.size,1,none⟩=some (.string s.name):=(c_ (a:=⟨w.heap.size,1,none⟩) (ht3.block w.heap.size HL2 HN2)).trans y1))
     go_wp2;go_ret;exact⟨ret_val (by rw[HE.o];rfl),⟨xs++[s.name],tk++[s.name],hc3,λ_=>⟨(scp_yes hk1' xs).symm,(scp_yes hk1' tk).symm⟩⟩,(((hBw.tcs (S:=λk=>k=bt∨k=b)).trans (HT2.o.mono (λk h=>.inl h))).drew).trans (ht3.mono (λk h=>.inr h))⟩
   by_cases hk2:s.kind=2
   ·have HE:Hid (stmtE E.t sc tk s=useE E.t.globals sc s.name false):=by
     show _=_;rw[stmtE_use HQ.o (.inl hk2)];simp[hk2]
    have HK:=hide hk1;rw[hk2] at x0;clear hk2;go_wp2_with fail;refine (useC_any ((HCs.o.below hBw).ck HGF) HP s.name hZ0 false).mono ?_;rintro e w2 ⟨rfl,hb2⟩;rw[<-HSC.o,<-HE.o];have hB2:Bl w w2:=hBw.trans (hb2.mono hBw.size);obtain⟨ev,hev⟩ : ∃ev,ev=errV (stmtE E.t sc tk s) fn st:=⟨_,rfl⟩;rw[<-hev];have HV:=hide hev;clear hev hb2;go_wp2;go_ret;exact⟨ret_val HV,⟨xs,tk,HCs.o.below hB2,λ_=>⟨(scp_no HK xs).symm,(scp_no HK tk).symm⟩⟩,hB2.tcs⟩
   by_cases hk3:s.kind=3
   ·have HE:Hid (stmtE E.t sc tk s=useE E.t.globals sc s.name true):=by
     show _=_;rw[stmtE_use HQ.o (.inr hk3)];simp[hk3]
    have HK:=hide hk1;rw[hk3] at x0;clear hk3;go_wp2_with fail;refine (useC_any ((HCs.o.below hBw).ck HGF) HP s.name hZ0 true).mono ?_;rintro e w2 ⟨rfl,hb2⟩;rw[<-HSC.o,<-HE.o];have hB2:Bl w w2:=hBw.trans (hb2.mono hBw.size);obtain⟨ev,hev⟩ : ∃ev,ev=errV (stmtE E.t sc tk s) fn st:=⟨_,rfl⟩;rw[<-hev];have HV:=hide hev;clear hev hb2;go_wp2;go_ret;exact⟨ret_val HV,⟨xs,tk,HCs.o.below hB2,λ_=>⟨(scp_no HK xs).symm,(scp_no HK tk).symm⟩⟩,hB2.tcs⟩
   ·have HE:Hid (stmtE E.t sc tk s=0):=stmtE_none HQ hk1 hk2 hk3;have HK:=hide hk1;have b1:(s.kind == 1)=false:=by simpa using hk1
    have b2:(s.kind == 2)=false:=by simpa using hk2
    have b3:(s.kind == 3)=false:=by simpa using hk3
    go_wp2;go_ret;exact⟨ret_val (by rw[HE.o];rfl),⟨xs,tk,HCs.o.below hBw,λ_=>⟨(scp_no HK xs).symm,(scp_no HK tk).symm⟩⟩,hBw.tcs⟩
end
structure Bd (E:CkV) (vb:Value) (ss:List St):Prop where
 st:Stmts E.w0 vb ss
 fit:fitB ss=true
 sm : ∀s∈ss,smallS s
 wf : ∀s∈ss,wfSt s
def BlockK (n:Nat):Prop:=∀(E:CkV) (w:World) (bsn:List (List ByteArray)) (bi:List Nat) (v:Value) (bt:Nat) (tk:List ByteArray) (fn st:Int) (ss:List St) (vb:Value) (a:Int),ss.length<=n->Cs E w bsn bi v bt tk fn st->Bd E vb ss->E.gf=globF E.t.globals->E.gp=(λs=>decide (0<=globI E.t.globals s))->(∀g∈E.t.globals,0<=g.size)->E.t.funcs.length<=1048576 ->
 bi.length+ss.length<=800000->tk.length+ss.length<=800000->0<=a->a+ss.length<=800000 ->
 Calls prog 174 #[.pointer (some ⟨E.C,0,none⟩),vb,.int .i64 a] w λe w'=>e=.returned (errV (blkE E.t ss a bsn.flatten tk).1 fn (blkE E.t ss a bsn.flatten tk).2.1) /\
  (∃v' tk' st',Cs E w' bsn bi v' bt tk' fn st'/\((blkE E.t ss a bsn.flatten tk).1=0->tk'=(blkE E.t ss a bsn.flatten tk).2.2)/\(∀k,v'.ownBlock=some k->v.ownBlock=some k∨w.heap.size<=k))/\Tcs (Sb E v bt) w w'
theorem Sb_next {E:CkV} {v v1:Value} {bt N:Nat} (h : ∀k,v1.ownBlock=some k->v.ownBlock=some k∨N<=k) : ∀x,Sb E v1 bt x->Sb E v bt x∨N<=x:=by
 intro x hx;rcases hx with h1|h1|h1
 ·exact .inl (.inl h1)
 ·exact .inl (.inr (.inl h1))
 ·rcases h x h1 with h2|h2
  ·exact .inl (.inr (.inr h2))
  ·exact .inr h2
theorem Tcs.cell {S:Nat->Prop} {W w':World} (h:Tcs S W w') {M:Nat} (hM:M<W.heap.size) (hn : ¬S M) (o:Nat):w'.cell? ⟨M,o,none⟩=W.cell? ⟨M,o,none⟩:=c_ (a:=⟨M,o,none⟩) (h.block M hM hn)
theorem drop_take_ {α:Type} (l:List α) (i j:Nat):(l.take (i+j)).drop i=(l.drop i).take j:=by
 rw[List.drop_take];congr 1;omega
theorem blockK (n:Nat):BlockK n:=by
 induction n with
 | zero=>
  intro E w bsn bi v bt tk fn st ss vb a hn hcs hbd hgf hgp hp hfl hl1 hl2 ha hl3;obtain rfl:ss = []:=List.eq_nil_of_length_eq_zero o_;obtain⟨ab,cb,rfl,-⟩:=hbd.st;have HCs:=hide hcs;have HE:Hid (blkE E.t [] a bsn.flatten tk=(0,0,tk)):=blkE_nil _ _ _ _;clear hcs hbd;simp only[l_n] at *;go_enter_defers func174,ntmps174;go_wp2_with fail;refine (openK HCs.o o_).mono ?_;rintro e w1 ⟨⟨u,rfl⟩,v1,hc1,ht1,ho1⟩;have HC1:=hide hc1;clear hc1;go_wp2_with fail;refine wp_loop_rounds 1 ?_;rw[rounds_succ];go_wp2_with fail;refine leaves_cons (f:=173) (args:=#[.pointer (some ⟨E.C,0,none⟩)]) (by simp) (by simp[go_sem]) ?_;refine (closeK HC1.o .returning).mono ?_;rintro e u' w'' ⟨rfl,⟨u2,rfl⟩,v2,hc2,ht2,ho2⟩;exact⟨_,results_tmp rfl _ _ _,ret_val (by rw[HE.o];rfl),⟨v2,tk,st,hc2,λ_=>by rw[HE.o],λk hk=>ho1 k (ho2 ▸ hk)⟩,ht1.trans (ht2.mono (λk h=>.inl h))⟩
 | succ n ih=>
 intro E w bsn bi v bt tk fn st ss vb a hn hcs hbd hgf hgp hp hfl hl1 hl2 ha hl3;have IH:=hide ih;have HCs:=hide hcs;have HGF:=hide hgf;have HGP:=hide hgp;have HP:=hide hp;have HBd:=hide hbd;obtain⟨RES,hRES⟩ : ∃R,R=blkE E.t ss a bsn.flatten tk:=⟨_,rfl⟩;rw[<-hRES];have HRES:=hide hRES;obtain⟨ab,cb,rfl,-⟩:=hbd.st;clear hcs hbd hgf hgp hp ih hRES;go_enter_defers func174,ntmps174;go_wp2_with fail;refine (openK HCs.o o_).mono ?_;rintro e w1 ⟨⟨u,rfl⟩,v1,hc1,ht1,ho1⟩;obtain⟨b,hb⟩ : ∃b,b=w.heap.size:=⟨_,rfl⟩;rw[<-hb] at hc1;have HC1:=hide hc1;have HT1:=hide ht1;have HO1:=hide ho1;clear hc1 ht1 ho1;go_wp2;go_loopw [1,2] (λvb2 a2 wr=>∃(q:List St) (z:Int) (xs tk':List ByteArray) (v':Value) (st':Int),a2=.int .i64 z/\Bd E vb2 q/\Cs E wr (bsn++[xs]) (bi++[b]) v' bt tk' fn st'/\RES=blkE E.t q z (bsn++[xs]).flatten tk'/\q.length<=ss.length/\xs.length+q.length<=800000/\tk'.length+q.length<=800000/\0<=z/\z+q.length<=800000/\Tcs (Sb E v bt) w wr/\(∀k,v'.ownBlock=some k->v.ownBlock=some k∨w.heap.size<=k)) (λvb2 _ _=>lenOf vb2)
 case atStart=>exact⟨ss,a,[],tk,v1,st,rfl,HBd,HC1,by rw[flat_nil];exact HRES,n_,by simp;omega,hl2,ha,hl3,HT1,HO1⟩
 case round=>
  clear HC1 HT1 HO1 HBd HRES HCs;obtain⟨q,z,xs,tk1,v1,st1,rfl,hbd,hcs,hres,hq1,hq2,hq3,hz0,hz1,ht,ho⟩:=hrel;have HC:=hide hcs;have HT:=hide ht;have HO:=hide ho;clear ht ho;cases q with
  | nil=>
   have HE:Hid (RES=(0,0,tk1)):=hres.trans (blkE_nil _ _ _ _);obtain⟨a2,c2,rfl,-⟩:=hbd.st;clear hres hcs hbd;simp only[l_n];go_wp2_with fail;refine leaves_cons (f:=173) (args:=#[.pointer (some ⟨E.C,0,none⟩)]) (by simp) (by simp[go_sem]) ?_;refine (closeK HC.o .returning).mono ?_;rintro e u' w'' ⟨rfl,⟨u2,rfl⟩,v2,hc2,ht2,ho2⟩;exact⟨_,results_tmp rfl _ _ _,ret_val (by rw[HE.o];rfl),⟨v2,tk1,st1,hc2,λ_=>by rw[HE.o],λk hk=>HO.o k (ho2 ▸ hk)⟩,HT.o.trans (ht2.mono (λk h=>.inl h))⟩
  | cons s r=>
   have HRES:=hide hres;have HSm:Hid (∀x∈s::r,smallS x):=hbd.sm;have HWf:Hid (∀x∈s::r,wfSt x):=hbd.wf;have hfit:=hbd.fit;rw[fitB_cons,Bool.and_eq_true,Bool.and_eq_true,Bool.and_eq_true,decide_eq_true_iff] at hfit;obtain⟨⟨p1,p2,p3,p4⟩,hf1,hf2,hf3⟩:=hfit;obtain⟨a2,cap,rfl,hcl,hcm,hc⟩:=hbd.st;obtain⟨b0,off,rfl,hs⟩:=hc (by simp);have hall:Stmts E.w0 (.slice (some ⟨b0,off,none⟩) (s::r).length cap) (s::r):=⟨_,_,rfl,hcl,hcm,λ_=>⟨b0,off,rfl,hs⟩⟩;have hrest:Stmts E.w0 (.slice (if cap=1 then some ⟨b0,off,none⟩ else some ⟨b0,off+6,none⟩) r.length (cap-1)) r:=by
    have:=hall.cut 1 (s::r).length (by simp) n_
    simpa[Addr.add] using this
   obtain⟨ve0,vf0,⟨d0,-,d2,d3,-,-⟩,he0,hf0⟩:=hs 0 (by simp);have hlt0:b0<E.w0.heap.size:=b_ d0;obtain⟨ve,vf,⟨g0,g1,g2,g3,g4,g5⟩,⟨c0,c1,c2,c3,c4,c5⟩,he,hf⟩:=(hs.below hcs.base).up 0 (by simp);simp only[Nat.zero_mul,Nat.add_zero,List.getElem_cons_zero] at c0 c1 c2 c3 c4 c5 g0 g1 g2 g3 g4 g5 he hf;simp only[Nat.zero_mul,Nat.add_zero,List.getElem_cons_zero] at d0 d2 d3 he0 hf0;obtain rfl:ve=ve0:=Option.some.inj (c2.symm.trans ((hcs.base.cell (p:=⟨b0,off+2,none⟩) hlt0).trans d2));obtain rfl:vf=vf0:=Option.some.inj (c3.symm.trans ((hcs.base.cell (p:=⟨b0,off+3,none⟩) hlt0).trans d3));clear d0 d2 d3;simp only[l_c] at *;have HR:=hide hrest;have h1:(1:Int)<=(r.length:Int)+1:=by omega
   have HNe:=hide he0;have HNf:=hide hf0;have hC:E.C<wr.heap.size:=hcs.ltC;have y6:=hcs.box.c6;have f6:=hcs.box.fz 6;have HF1:=hide hf1;have HF2:=hide hf2;have HF3:=hide hf3;obtain⟨a3,k3,rfl,-⟩:=he;obtain⟨a4,k4,rfl,-⟩:=hf;clear hs hc hall hrest hf1 hf2 hf3 hcs hbd hres he0 hf0;go_wp2_with fail;go_region
   generalize (if cap=1 then some ({block:=b0,off:=off,spot:=none}:Addr) else some {block:=b0,off:=off+6,spot:=none})=a1 at HR ⊢;generalize hk1:cap-1=k1 at HR ⊢;have hk1':r.length<=k1:=by omega
   have hk2':k1<=9223372036854775807:=by omega
   clear hk1 c0 c1 c2 c3 c4 c5 g0 g1 g2 g3 g4 g5 h1;go_wp2_with fail;obtain⟨W6,hW6⟩ : ∃W6,W6=((wr.setCell ⟨E.C,6,none⟩ (.int .i64 z)).alloc (.cells #[.int .i64 s.kind,.string s.name,.slice a3 s.e.length k3,.slice a4 s.f.length k4,.int .i64 s.thn,.int .i64 s.els] 132)).drew:=⟨_,rfl⟩;obtain⟨M,hM⟩ : ∃M,M=wr.heap.size:=⟨_,rfl⟩;have hA6:Below (wr.setCell ⟨E.C,6,none⟩ (.int .i64 z)).heap.size (wr.setCell ⟨E.C,6,none⟩ (.int .i64 z)) W6:=by rw[hW6];exact (bel_a _ _).drew
   have HC6:Hid (Cs E W6 (bsn++[xs]) (bi++[b]) v1 bt tk1 fn z):=(HC.o.stmt z).below hA6;have HT6:Hid (Tcs (Sb E v1 bt) wr W6):=((Tcs.refl (Sb E v1 bt) wr).setCell (p:=⟨E.C,6,none⟩) (.inl rfl) _).of_below hA6;have m4:W6.cell? ⟨M,4,none⟩=some (.int .i64 s.thn):=by rw[hW6];exact (World.cell?_alloc_at _ _ _ _ (by simp[hM])).trans rfl
   have m5:W6.cell? ⟨M,5,none⟩=some (.int .i64 s.els):=by rw[hW6];exact (World.cell?_alloc_at _ _ _ _ (by simp[hM])).trans rfl
   have hM6:M<W6.heap.size:=by rw[hW6,hM];simp
   have HMS:Hid (¬Sb E v1 bt M):=by
    show ¬_;rintro (h|h|h)
    ·omega
    ·have:=HC.o.lt bt (by simp);omega
    ·have:=(HC.o.rlt _ h).2;omega
   have hMb:M≠b:=by have:=HC.o.lt b (by simp);omega
   have hMt:M≠bt:=by have:=HC.o.lt bt (by simp);omega
   rw[<-hW6,<-hM];have HMw:Hid (w.heap.size<=M):=by have:=HT.o.size;show _<=_;omega
   clear hW6 hA6 y6 f6 hM;refine (stmtK HC6.o HGF.o HGP.o HP.o hfl s _ _ (HNe.o.below HC6.o.base) (HNf.o.below HC6.o.base) (HSm.o s (by simp)) (HWf.o s (by simp)) o_ o_).mono ?_;rintro e w2 ⟨rfl,⟨xs2,tk2,hc2,himp⟩,ht2⟩;have HC2:=hide hc2;have HT2:Hid (Tcs (Sb E v bt) w w2):=(HT.o.next HT6.o (Sb_next HO)).next ht2 (λx hx=>by
    rcases hx with h|h
    ·exact .inl (.inr (.inl h))
    ·exact .inr o_)
   have n4:w2.cell? ⟨M,4,none⟩=some (.int .i64 s.thn):=(ht2.cell hM6 (by rintro (h|h);exact hMt h;exact hMb h) 4).trans m4;have n5:w2.cell? ⟨M,5,none⟩=some (.int .i64 s.els):=(ht2.cell hM6 (by rintro (h|h);exact hMt h;exact hMb h) 5).trans m5;have hM2:M<w2.heap.size:=l_ hM6 ht2.size;obtain⟨SC,hSC⟩ : ∃SC,SC=(bsn++[xs]).flatten:=⟨_,rfl⟩;rw[<-hSC] at himp HRES ⊢;have HSC:=hide hSC;clear m4 m5 hM6 hc2 ht2 hSC;by_cases hE:stmtE E.t SC tk1 s=0
   ·obtain⟨rfl,rfl⟩:=himp hE;have HE:=hide hE;rw[hE,errV_zero];clear hE himp;obtain⟨tn,htn⟩:=Int.eq_ofNat_of_zero_le (show 0<=s.thn by omega);obtain⟨ln,hln⟩:=Int.eq_ofNat_of_zero_le (show 0<=s.els by omega);rw[htn] at n4 p2 p4;rw[hln] at n5 p4;have HTN:Hid (s.thn.toNat=tn/\s.els.toNat=ln):=⟨by omega,by omega⟩;have hlt:tn<=r.length:=by omega
    have hlt2:tn+ln<=r.length:=by omega
    rw[HTN.o.1] at HF1;rw[HTN.o.1,HTN.o.2] at HF2 HF3;have HSF:Hid ((bsn++[scp s xs]).flatten=scp s SC):=by show _=_;rw[flat_scp,HSC.o]
    have hx1:=scp_len s tk1;have hx2:=scp_len s xs;go_wp2_with fail;refine (IH.out E w2 (bsn++[scp s xs]) (bi++[b]) v1 bt (scp s tk1) fn z (r.take tn) (.slice a1 tn k1) (z+1) (by simp;omega) HC2.o ⟨HR.o.head tn hlt,HF1,λx hx=>HSm.o x (by simp[List.mem_of_mem_take hx]),λx hx=>HWf.o x (by simp[List.mem_of_mem_take hx])⟩ HGF.o HGP.o HP.o hfl (by simp;omega) (by simp;omega) o_ (by simp;omega)).mono ?_;rintro e w3 ⟨rfl,⟨v3,tk3,st3,hc3,hi3,ho3⟩,ht3⟩;rw[HSF.o] at hi3 ⊢;have HC3:=hide hc3;have hw2:=HT2.o.size;have hMS:=HMS.o;have q4:w3.cell? ⟨M,4,none⟩=some (.int .i64 tn):=(ht3.cell hM2 hMS 4).trans n4;have q5:w3.cell? ⟨M,5,none⟩=some (.int .i64 ln):=(ht3.cell hM2 hMS 5).trans n5;have hM3:M<w3.heap.size:=l_ hM2 ht3.size;have HT3:Hid (Tcs (Sb E v bt) w w3):=HT2.o.next ht3 (Sb_next HO);have HO3:Hid (∀k,v3.ownBlock=some k->v.ownBlock=some k∨w.heap.size<=k):=λk hk=>by
     rcases ho3 k hk with h|h
     ·exact HO.o k h
     ·exact .inr o_
    have HMS3:Hid (¬Sb E v3 bt M):=by
     show ¬_;rintro (h|h|h)
     ·exact hMS (.inl h)
     ·exact hMS (.inr (.inl h))
     ·rcases ho3 M h with h2|h2
      ·exact hMS (.inr (.inr h2))
      ·omega
    clear hc3 ht3 ho3 n4 n5 hMS hw2;obtain⟨X,hX⟩ : ∃X,X=blkE E.t (r.take tn) (z+1) (scp s SC) (scp s tk1):=⟨_,rfl⟩;rw[<-hX] at hi3 ⊢;have HX:Hid (X=blkE E.t (r.take s.thn.toNat) (z+1) (scp s SC) (scp s tk1)):=by show _=_;rw[HTN.o.1];exact hX
    have hXl:X.2.2.length<=(scp s tk1).length+tn:=by
     have:=blkE_len E.t _ (r.take tn) (z+1) (scp s SC) (scp s tk1) n_
     rw[<-hX] at this;simp at this;omega
    clear hX;by_cases hX1:X.1=0
    ·have HX1:=hide hX1;obtain rfl:=hi3 hX1;rw[hX1,errV_zero];clear hX1 hi3;obtain⟨a5,k5,hr5,hs5⟩ : ∃a5 k5,(∀w:World,(Instr.slice 95 (.slice a1 r.length k1) (some (.int .i64 tn)) (some (.int .i64 ((tn:Int)+(ln:Int)))) none).run prog w=.ok (.slice a5 ln k5) w)/\Stmts E.w0 (.slice a5 ln k5) ((r.take (tn+ln)).drop tn):=by
      have h:=cut_run a1 r.length k1 tn (tn+ln) o_ o_ o_;have h':=HR.o.cut tn (tn+ln) o_ o_;rw[show tn+ln-tn=ln by omega] at h h';exact⟨_,_,h,h'⟩
     have HS5:=hide hs5;clear hs5;have HL5:Hid (((r.take (tn+ln)).drop tn).length=ln):=by show _=_;simp;omega
     have HD3:=hide (HC3.o.below (r_.drew));have HI5:Hid (Calls prog 174 #[.pointer (some ⟨E.C,0,none⟩),.slice a5 ln k5,.int .i64 (z+1+tn)] w3.drew λe w'=>e=.returned (errV (blkE E.t ((r.take (tn+ln)).drop tn) (z+1+tn) (scp s SC) X.2.2).1 fn (blkE E.t ((r.take (tn+ln)).drop tn) (z+1+tn) (scp s SC) X.2.2).2.1) /\
  (∃v' tk' st',Cs E w' (bsn++[scp s xs]) (bi++[b]) v' bt tk' fn st'/\((blkE E.t ((r.take (tn+ln)).drop tn) (z+1+tn) (scp s SC) X.2.2).1=0->tk'=(blkE E.t ((r.take (tn+ln)).drop tn) (z+1+tn) (scp s SC) X.2.2).2.2)/\(∀k,v'.ownBlock=some k->v3.ownBlock=some k∨w3.drew.heap.size<=k))/\Tcs (Sb E v3 bt) w3.drew w'):=by
      have hl:=HL5.o;have:=IH.out E w3.drew (bsn++[scp s xs]) (bi++[b]) v3 bt X.2.2 fn st3 ((r.take (tn+ln)).drop tn) (.slice a5 ln k5) (z+1+tn) o_ HD3.o ⟨HS5.o,HF2.o,λx hx=>HSm.o x (by simp[List.mem_of_mem_take (List.mem_of_mem_drop hx)]),λx hx=>HWf.o x (by simp[List.mem_of_mem_take (List.mem_of_mem_drop hx)])⟩ HGF.o HGP.o HP.o hfl (by simp only[l_a,l_c,l_n];omega) o_ o_ o_
      rw[HSF.o] at this;exact this
     have hw1:IntKind.i64.wrap (z+1)=z+1:=by simp[IntKind.wrap,IntKind.bits,IntKind.signed];omega
     have hw2:IntKind.i64.wrap (z+1+(tn:Int))=z+1+(tn:Int):=by simp[IntKind.wrap,IntKind.bits,IntKind.signed];omega
     have hwt:IntKind.i64.wrap ((tn:Int)+(ln:Int))=(tn:Int)+(ln:Int):=by simp[IntKind.wrap,IntKind.bits,IntKind.signed];omega
     have HBN:Hid (0<=z/\z+1+r.length<=800000/\X.2.2.length+ln+(r.length-(tn+ln))<=800000/\(scp s xs).length+(r.length-(tn+ln))<=800000/\r.length+1<=ss.length):=⟨hz0,by omega,by omega,by omega,by omega⟩;clear hx1 hx2 hXl hlt p1 p2 p3 p4 hcl hcm hq1 hq2 hq3 hz0 hz1 hl1 hl2 hl3 ha hn;go_wp2_with fail;go_region_held3 (λW=>W.cell? ⟨M,4,none⟩=some (.int .i64 tn)) (go_simp)
      (first
      | ((with_reducible refine Calls.mono HI5.o ?_);rintro e w4 ⟨rfl,⟨v4,tk4,st4,hc4,hi4,ho4⟩,ht4⟩;have hcc:w4.cell? ⟨M,4,none⟩=some (.int .i64 tn):=(ht4.cell hM3 HMS3.o 4).trans q4))
     have HC4:=hide hc4;have q5':w4.cell? ⟨M,5,none⟩=some (.int .i64 ln):=(ht4.cell hM3 HMS3.o 5).trans q5;have HT4:Hid (Tcs (Sb E v bt) w w4):=(HT3.o.drew).next ht4 (Sb_next HO3);have hw3:w.heap.size<=w3.heap.size:=HT3.o.size;have HO4:Hid (∀k,v4.ownBlock=some k->v.ownBlock=some k∨w.heap.size<=k):=λk hk=>by
      rcases ho4 k hk with h|h
      ·exact HO3.o k h
      ·exact .inr (t_ hw3 h)
     clear hc4 ht4 ho4 q4 q5;obtain⟨Y,hY⟩ : ∃Y,Y=blkE E.t ((r.take (tn+ln)).drop tn) (z+1+tn) (scp s SC) X.2.2:=⟨_,rfl⟩;rw[<-hY] at hi4 ⊢;have HYl:Hid (Y.2.2.length<=X.2.2.length+ln):=by
      have h1:=blkE_len E.t _ ((r.take (tn+ln)).drop tn) (z+1+tn) (scp s SC) X.2.2 n_;rw[<-hY,HL5.o] at h1;exact h1
     have HY:Hid (Y=blkE E.t ((r.drop s.thn.toNat).take s.els.toNat) (z+1+s.thn) (scp s SC) X.2.2):=by show _=_;rw[HTN.o.1,HTN.o.2,htn,<-drop_take_];exact hY
     clear hY;by_cases hY1:Y.1=0
     ·have HY1:=hide hY1;obtain rfl:=hi4 hY1;rw[hY1,errV_zero];clear hY1 hi4;obtain⟨a6,k6,hr6,hs6⟩ : ∃a6 k6,(∀w:World,(Instr.slice 95 (.slice a1 r.length k1) (some (.int .i64 ((tn:Int)+(ln:Int)))) none none).run prog w=.ok (.slice a6 (r.length-(tn+ln)) k6) w)/\Stmts E.w0 (.slice a6 (r.length-(tn+ln)) k6) (r.drop (tn+ln)):=by
       have h:=cut_run_l a1 r.length k1 (tn+ln) o_ o_ ((tn:Int)+(ln:Int)) o_;have h':=HR.o.cut (tn+ln) r.length o_ o_;rw[List.take_length] at h';exact⟨_,_,h,h'⟩
      have HS6:=hide hs6;have HRn:Hid (RES=blkE E.t (r.drop (tn+ln)) (z+1+tn+ln) (bsn++[scp s xs]).flatten Y.2.2):=by
       have h1:=blkE_next (r:=r) (a:=z) (tk1:=X.2.2) (tk2:=Y.2.2) HE.o (by rw[<-HX.o];exact HX1) (by rw[<-HX.o]) (by rw[<-HY.o];exact HY1) (by rw[<-HY.o]);rw[HTN.o.1,HTN.o.2,htn,hln] at h1;show _=_;rw[HSF.o,HRES.o,h1]
      clear hs6;have hw4:IntKind.i64.wrap (z+1+((tn:Int)+(ln:Int)))=z+1+((tn:Int)+(ln:Int)):=by have:=HBN.o;simp[IntKind.wrap,IntKind.bits,IntKind.signed];omega
      go_wp2;go_roundw
      case rel=>
       have hb:=HBN.o;have hyl:=HYl.o;exact⟨r.drop (tn+ln),z+1+tn+ln,scp s xs,Y.2.2,v4,st4,by simp;omega,⟨HS6,HF3,λx hx=>HSm.o x (by simp[List.mem_of_mem_drop hx]),λx hx=>HWf.o x (by simp[List.mem_of_mem_drop hx])⟩,HC4,HRn,by simp;omega,by simp;omega,by simp;omega,by omega,by simp;omega,HT4,HO4⟩
      case measure=>simp[lenOf];omega
     ·have HE2:Hid (RES=Y):=by
       have h3:=blkE_else (r:=r) (a:=z) (tk1:=X.2.2) HE.o (by rw[<-HX.o];exact HX1) (by rw[<-HX.o]) (by rw[<-HY.o];exact hY1);show RES=Y;rw[HRES.o,h3,<-HY.o]
      have HY1:=hide hY1;rw[errV_ne hY1];clear hY1 hi4 q5';go_wp2_with fail;refine leaves_cons (f:=173) (args:=#[.pointer (some ⟨E.C,0,none⟩)]) (by simp) (by simp[go_sem]) ?_;refine (closeK HC4.o .returning).mono ?_;rintro e u' w'' ⟨rfl,⟨u2,rfl⟩,v2,hc2,ht2,ho2⟩;exact⟨_,results_tmp rfl _ _ _,ret_val (by rw[HE2.o,errV_ne HY1.o];rfl),⟨v2,tk4,st4,hc2,λh=>absurd h (by rw[HE2.o];exact HY1),λk hk=>HO4.o k (ho2 ▸ hk)⟩,HT4.o.trans (ht2.mono (λk h=>.inl h))⟩
    ·have HE:Hid (RES=X):=by
      have h1:=HRES.o;have h2:=HX.o;have h3:=blkE_then (r:=r) (a:=z) HE.o (by rw[<-h2];exact hX1);show RES=X;rw[h1,h3,<-h2]
     have HX1:=hide hX1;rw[errV_ne hX1];clear hX1 hi3 q4 q5;go_wp2_with fail;refine leaves_cons (f:=173) (args:=#[.pointer (some ⟨E.C,0,none⟩)]) (by simp) (by simp[go_sem]) ?_;refine (closeK HC3.o .returning).mono ?_;rintro e u' w'' ⟨rfl,⟨u2,rfl⟩,v2,hc2,ht2,ho2⟩;exact⟨_,results_tmp rfl _ _ _,ret_val (by rw[HE.o,errV_ne HX1.o];rfl),⟨v2,tk3,st3,hc2,λh=>absurd h (by rw[HE.o];exact HX1),λk hk=>HO3.o k (ho2 ▸ hk)⟩,HT3.o.trans (ht2.mono (λk h=>.inl h))⟩
   ·have HE:Hid (RES=(stmtE E.t SC tk1 s,z,tk1)):=HRES.o.trans (blkE_bad hE);have HE0:=hide hE;rw[errV_ne hE];generalize stmtE E.t SC tk1 s=zz at HE HE0 ⊢;clear hE himp n4 n5;go_wp2_with fail;refine leaves_cons (f:=173) (args:=#[.pointer (some ⟨E.C,0,none⟩)]) (by simp) (by simp[go_sem]) ?_;refine (closeK HC2.o .returning).mono ?_;rintro e u' w'' ⟨rfl,⟨u2,rfl⟩,v2,hc2,ht2,ho2⟩;exact⟨_,results_tmp rfl _ _ _,ret_val (by rw[HE.o,errV_ne HE0.o];rfl),⟨v2,tk2,z,hc2,λh=>absurd h (by rw[HE.o];exact HE0),λk hk=>HO.o k (ho2 ▸ hk)⟩,HT2.o.trans (ht2.mono (λk h=>.inl h))⟩
theorem functionK {E:CkV} {w:World} {v:Value} {bt:Nat} {i:Nat} (h:Cs E w [] [] v bt [] (i:Int) (-1)) (hgf:E.gf=globF E.t.globals) (hgp:E.gp=λs=>decide (0<=globI E.t.globals s)) (hp : ∀g∈E.t.globals,0<=g.size) (hfl:E.t.funcs.length<=1048576)
  (f:Fu) (vp vb:Value) (hps:Strs E.w0 vp f.params) (hbd:Bd E vb f.body) (hwp : ∀s∈f.params,s.size<=9223372036854775807) (hpl:f.params.length<=1000) (hbl:f.body.length<=1000) :
  Calls prog 140 #[.pointer (some ⟨E.C,0,none⟩),.agg #[.string f.name,vp,vb]] w λe w'=>e=.returned (errV (bodyE E.t i f).1 (i:Int) (bodyE E.t i f).2.2) /\
   (∃v' tk' st',Cs E w' [] [] v' bt tk' (i:Int) st'/\(∀k,v'.ownBlock=some k->v.ownBlock=some k∨w.heap.size<=k))/\Tcs (Sb E v bt) w w':=by
 obtain⟨HCs,HGF,HGP⟩:=h3 h hgf hgp;have HGQ:Hid (∀s,(E.gp s=true)=(0<=globI E.t.globals s)):=λs=>by rw[hgp];simp
 obtain⟨HP,HBd,HWP⟩:=h3 hp hbd hwp;obtain⟨RES,hRES⟩ : ∃R,R=bodyE E.t i f:=⟨_,rfl⟩;rw[<-hRES];have HRES:=hide hRES;obtain⟨ab,cb,rfl,-⟩:=hbd.st;obtain⟨ap,cp,rfl,-,-,hpc⟩:=hps;have HPC:=hide hpc;obtain⟨W0,hW0⟩ : ∃W0,W0=w.alloc (.cells #[.string f.name,.slice ap f.params.length cp,.slice ab f.body.length cb] 97):=⟨_,rfl⟩;obtain⟨M,hM⟩ : ∃M,M=w.heap.size:=⟨_,rfl⟩;have hA:Bl w W0:=by rw[hW0];exact r_.alloc n_ _
 have HCa:Hid (Cs E W0 [] [] v bt [] (i:Int) (-1)):=h.below hA;have m1:W0.cell? ⟨M,1,none⟩=some (.slice ap f.params.length cp):=by rw[hW0,hM];simp
 have m2:W0.cell? ⟨M,2,none⟩=some (.slice ab f.body.length cb):=by rw[hW0,hM];simp
 have hM0:M<W0.heap.size:=by rw[hW0,hM];simp
 have HMS:Hid (¬Sb E v bt M):=by
  show ¬_;rintro (q|q|q)
  ·have:=h.ltC;omega
  ·have:=h.lt bt (by simp);omega
  ·have:=(h.rlt _ q).2;omega
 have hMt:M≠bt:=by have:=h.lt bt (by simp);omega
 have HT0:Hid (Tcs (Sb E v bt) w W0):=hA.tcs;have hw0:w.heap.size<=W0.heap.size:=hA.size;clear h hbd hgf hgp hp hRES hpc hwp hA HCs;go_enter_defers func140,ntmps140;go_wp2_with fail;rw[<-hW0,<-hM];refine (openK HCa (by simp)).mono ?_;rintro e w1 ⟨⟨u,rfl⟩,v1,hc1,ht1,ho1⟩;obtain⟨b,hb⟩ : ∃b,b=W0.heap.size:=⟨_,rfl⟩;rw[<-hb] at hc1;have HC1:=hide hc1;have HT1:Hid (Tcs (Sb E v bt) w w1):=HT0.o.next ht1 (λx hx=>.inl hx);have HO1:Hid (∀k,v1.ownBlock=some k->v.ownBlock=some k∨w.heap.size<=k):=λk hk=>by
  rcases ho1 k hk with q|q
  ·exact .inl q
  ·exact .inr o_
 have n1:w1.cell? ⟨M,1,none⟩=some (.slice ap f.params.length cp):=(ht1.cell hM0 HMS 1).trans m1;have n2:w1.cell? ⟨M,2,none⟩=some (.slice ab f.body.length cb):=(ht1.cell hM0 HMS 2).trans m2;have hM1:M<w1.heap.size:=l_ hM0 ht1.size;have hMb:M≠b:=by omega
 have hwb:w.heap.size<=b:=by omega
 clear hc1 ht1 ho1 m1 m2 hM HT0 HCa hb;go_wp2;go_loopw [18] (λj wr=>∃(k:Nat),k<=f.params.length/\j=.int .i64 k/\Cs E wr ([]++[f.params.take k]) ([]++[b]) v1 bt (f.params.take k) (i:Int) (-1)/\dupP E.t.globals [] f.params=dupP E.t.globals (f.params.take k) (f.params.drop k)/\wr.cell? ⟨M,2,none⟩=some (.slice ab f.body.length cb)/\M<wr.heap.size/\Tcs (Sb E v bt) w wr) (λj _=>f.params.length-(RowKit.intOf j).toNat)
 case atStart=>exact⟨0,y_,rfl,by simpa using HC1.o,by simp,n2,hM1,HT1.o⟩
 case round=>
  obtain⟨k,hk,rfl,hc,hd,n2,hM1,ht⟩:=hrel;obtain⟨HC,HD,HT⟩:=h3 hc hd ht;clear hd ht;by_cases hlt:k<f.params.length
  ·obtain⟨bp,op,rfl,hcp⟩:=HPC o_;have d0:=(hc.base.cell (p:=⟨bp,op+k,none⟩) (b_ (hcp k hlt))).trans (hcp k hlt);have hZ:f.params[k].size<=maxLen:=by have:=HWP.o _ (g_ hlt);unfold maxLen;omega
   have HD2:Hid (dupP E.t.globals [] f.params=dupP E.t.globals (f.params.take k) (f.params[k]::f.params.drop (k+1))):=by show _=_;rw[HD.o,drop_cons_ _ _ hlt]
   have HTk:=hide (take_succ _ _ hlt);have htl:(f.params.take k).length<=1000:=by simp;omega
   generalize f.params[k]=p at d0 hZ HD2 HTk;by_cases hx:inS (f.params.take k) p=true∨0<=globI E.t.globals p
   ·have HE:Hid (RES=(2,(i:Int),-1)):=by
     show _=_;rw[HRES.o];unfold bodyE;rw[if_pos (by rw[HD2.o];exact dupP_hit hx)]
    have HX:Hid (inS (f.params.take k) p=true∨E.gp p=true):=by
     show _∨_;rw[HGQ.o];exact hx
    clear hx;go_wp2_with fail;refine (takeOld HC hZ HX).mono ?_;rintro e w2 ⟨rfl,hw⟩;rw[hw,errV_ne (by decide)];go_wp2_with fail;refine leaves_cons (f:=173) (args:=#[.pointer (some ⟨E.C,0,none⟩)]) (by simp) (by simp[go_sem]) ?_;refine (closeK HC .returning).mono ?_;rintro e u' w'' ⟨rfl,⟨u2,rfl⟩,v2,hc2,ht2,ho2⟩;exact⟨_,results_tmp rfl _ _ _,ret_val (by rw[HE.o];rfl),⟨v2,_,_,hc2,λk hk=>HO1 k (ho2 ▸ hk)⟩,HT.o.trans (ht2.mono (λk h=>.inl h))⟩
   ·have HX:Hid (¬(inS (f.params.take k) p=true∨E.gp p=true)):=by
     show ¬(_∨_);rw[HGQ.o];exact hx
    have HDn:Hid (dupP E.t.globals [] f.params=dupP E.t.globals (f.params.take (k+1)) (f.params.drop (k+1))):=by show _=_;rw[HD2.o,dupP_step hx,HTk.o]
    clear hx;go_wp2_with fail;refine (takeNew HC hZ o_ HX).mono ?_;rintro e w2 ⟨rfl,hc2,ht2⟩;have HC2:Hid (Cs E w2 ([]++[f.params.take k]) ([]++[b]) v1 bt (f.params.take k++[p]) (i:Int) (-1)):=hc2;have x2:w2.cell? ⟨M,2,none⟩=some (.slice ab f.body.length cb):=(ht2.cell hM1 hMt 2).trans n2;have hM2:M<w2.heap.size:=l_ hM1 ht2.size;have HT2:Hid (Tcs (Sb E v bt) w w2):=HT.o.trans (ht2.mono (λk h=>.inr (.inl h)));go_wp2_with fail;refine (addK HC2 hZ o_).mono ?_;rintro e w3 ⟨⟨u3,rfl⟩,hc3,ht3⟩;have HC3:Hid (Cs E w3 ([]++[f.params.take (k+1)]) ([]++[b]) v1 bt (f.params.take (k+1)) (i:Int) (-1)):=by
     have:=hc3
     rw[<-HTk.o] at this;exact this
    have x3:w3.cell? ⟨M,2,none⟩=some (.slice ab f.body.length cb):=(ht3.cell hM2 hMb 2).trans x2;have hM3:M<w3.heap.size:=l_ hM2 ht3.size;have HT3:Hid (Tcs (Sb E v bt) w w3):=HT2.o.next ht3 (λx hx=>.inr o_);clear hc3 ht3 x2 hM2;go_wp2;go_roundw
    case rel=>exact⟨k+1,by omega,by go_num,HC3,HDn,x3,hM3,HT3⟩
    case measure=>simp[RowKit.intOf];omega
  ·have hkk:k=f.params.length:=by omega
   subst hkk;have HD0:Hid (dupP E.t.globals [] f.params=false):=by show _=_;rw[HD.o];simp[dupP_nil]
   have HCf:Hid (Cs E wr [f.params] [b] v1 bt f.params (i:Int) (-1)):=by
    have:=HC.o
    rw[List.take_length] at this;exact this
   have HFl:Hid ([f.params].flatten=f.params):=by show _=_;simp
   go_wp2_with fail;refine (blockK _ E wr [f.params] [b] v1 bt f.params (i:Int) (-1) f.body _ 0 n_ HCf HBd HGF HGP HP hfl (by simp;omega) o_ o_ o_).mono ?_;rintro e w2 ⟨rfl,⟨v2,tk2,st2,hc2,hi2,ho2⟩,ht2⟩;rw[HFl.o];have HC2:Hid (Cs E w2 ([]++[f.params]) ([]++[b]) v2 bt tk2 (i:Int) st2):=hc2;have HT2:Hid (Tcs (Sb E v bt) w w2):=HT.o.next ht2 (Sb_next HO1);have hwr:=HT.o.size;have HO2:Hid (∀k,v2.ownBlock=some k->v.ownBlock=some k∨w.heap.size<=k):=λk hk=>by
    rcases ho2 k hk with q|q
    ·exact HO1 k q
    ·exact .inr o_
   have HE:Hid (errV (blkE E.t f.body 0 f.params f.params).1 (i:Int) (blkE E.t f.body 0 f.params f.params).2.1=errV RES.1 (i:Int) RES.2.2):=by
    show _=_;rw[HRES.o];unfold bodyE;rw[if_neg (by rw[HD0.o];simp)];by_cases q:(blkE E.t f.body 0 f.params f.params).1=0
    ·rw[if_neg (by simp[q]),q];rfl
    ·rw[if_pos q]
   rw[HE.o];obtain⟨ev,hev⟩ : ∃ev,ev=errV RES.1 (i:Int) RES.2.2:=⟨_,rfl⟩;rw[<-hev];have HV:=hide hev;clear hc2 hi2 ho2 ht2 n2 hev;go_wp2_with fail;refine leaves_cons (f:=173) (args:=#[.pointer (some ⟨E.C,0,none⟩)]) (by simp) (by simp[go_sem]) ?_;refine (closeK HC2 .returning).mono ?_;rintro e u' w'' ⟨rfl,⟨u2,rfl⟩,v3,hc3,ht3,ho3⟩;exact⟨_,results_tmp rfl _ _ _,ret_val (by rw[<-HV.o];rfl),⟨v3,_,_,hc3,λk hk=>HO2 k (ho3 ▸ hk)⟩,HT2.o.trans (ht3.mono (λk h=>.inl h))⟩
end Go.Proofs.YtffnkkpmlplfeaaGreatDoor
