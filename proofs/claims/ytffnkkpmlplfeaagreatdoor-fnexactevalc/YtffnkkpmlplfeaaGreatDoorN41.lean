import Derived.Test.YtffnkkpmlplfeaaGreatDoorN30
import Derived.Test.YtffnkkpmlplfeaaGreatDoorN40
namespace Go.Proofs.YtffnkkpmlplfeaaGreatDoor
open Go.Proofs.Tryz
open Go.RowKit
set_option linter.all false
set_option maxRecDepth 100000
set_option maxHeartbeats 16000000
variable[Inhabited Pick]
section
variable {w:World} {v:Value}
theorem Ints.set {l:List Int} {g:Nat} (h:Ints w v l) (hne:v.ownBlock≠some g) (o:Nat) (u:Value):Ints (w.setCell ⟨g,o,none⟩ u) v l:=by
 obtain⟨a,cap,rfl,h3⟩:=h;refine⟨a,cap,rfl,λh0 => ?_⟩;obtain⟨b,rfl,hc⟩:=h3 h0;have hb:b≠g:=λe=>hne (by simp[Value.ownBlock,e]);refine⟨b,rfl,λj hj => ?_⟩;rw[s_ _ _ _ _ (by intro h;simp only[Addr.mk.injEq] at h;exact hb h.1.symm)];exact hc j hj
def callI (fs:List Fu) (j:Nat):List Int:=(callsL fs (fs.getD j ⟨⟨#[]⟩,[],[]⟩).body).map (λg:Nat=>(g:Int))
def Graph (w:World) (v:Value) (fs:List Fu):Prop:=∃G cap,v=.slice (some ⟨G,0,none⟩) fs.length cap/\∀j,j<fs.length->∃vj,w.cell? ⟨G,j,none⟩=some vj/\Ints w vj (callI fs j)
theorem Graph.below {w':World} {fs:List Fu} (h:Graph w v fs) (hb:Below w.heap.size w w'):Graph w' v fs:=by
 obtain⟨G,cap,rfl,h⟩:=h;refine⟨G,cap,rfl,λj hj => ?_⟩;obtain⟨vj,h1,h2⟩:=h j hj;exact⟨vj,(hb.cell (p:=⟨G,j,none⟩) (b_ h1)).trans h1,h2.below hb⟩
theorem info_ii:(prog.info? 26).map (λi=>(i.zero,i.size,i.bytes))=some (some (.slice none 0 0),1,24):=by kernel_rfl
theorem graph_any (fs:List Fu) (vg vf:Value) (w:World) (hl:fs.length<=1000) (hg : ∃a n c,vg=.slice a n c) (hw:wfFs fs) (hsm : ∀f∈fs,smallF f) (hf:Funcs w vf fs) :
  Calls prog 86 #[.agg #[vg,vf]] w λe w'=>∃v,e=.returned v/\Graph w' v fs/\Below w.heap.size w w':=by
 obtain⟨ag,ng,cg,rfl⟩:=hg;have HF:=hide hf;obtain⟨af,cf,rfl,-,-,hfc⟩:=hf;obtain⟨HFC,HW,HSm⟩:=h3 hfc hw hsm;obtain⟨i0,hi,hz0,hz1,hz2⟩:=info_parts info_ii;clear hfc hw hsm;go_enter func86,ntmps86;go_wp2_with fail;have hA:Bl w (w.alloc (.cells #[.slice ag ng cg,.slice af fs.length cf] 34)):=bel_a _ _;refine (fnums_any fs _ _ _ o_ HW (HF.o.below hA)).mono ?_;rintro e w1 ⟨bn,D,rfl,hbn,hown,hN,hb1⟩;simp only[World.size_alloc] at hb1 hbn;obtain⟨x0,x1⟩:=box2 hb1;obtain⟨HOw,HN⟩:=h2 hown hN;have hB1:Bl w w1:=one_below hb1;have hsz1:=hb1.size;simp only[World.size_alloc] at hsz1;clear hown hN;go_wp2_with (at_make;refine wpList_make_full _ rfl _ _ 141 rfl w1.heap.size 26 i0 (.slice none 0 0) 1 underlying141 hi hz0 hz1 _ _ _ _ fs.length rfl rfl o_ o_ ?_ ?_ n_ ?_)
 ·rw[hz2];omega
 ·unfold maxLen;omega
 intro w2 hown2 hgrow2;have hb2:Bl w1 w2:=r_.grown hgrow2 n_ (by simp);have hb2':Below (w.heap.size+1) (w.alloc (.cells #[.slice ag ng cg,.slice af fs.length cf] 34)) w2:=hb1.trans (hb2.mono hsz1);have HM2:=hide (map_below HOw hb2);have hR2 : ∃xs,w2.ownsRow w1.heap.size 26 1 (.slice (some ⟨w1.heap.size,0,none⟩) fs.length fs.length) fs.length xs:=⟨_,hown2⟩;obtain⟨xs2,hR2⟩:=hR2;have HR2:=hide hR2;have hG:w1.heap.size<w2.heap.size:=(World.ownsRow.lt hR2 w1.heap.size rfl).2;obtain⟨G,hGe⟩ : ∃G,G=w1.heap.size:=⟨_,rfl⟩;rw[<-hGe] at HR2 hG ⊢;have hwG:w.heap.size+1<=G:=by omega
 have hbG0:bn<G:=by have:=HOw.o.lt;omega
 clear hown2 hgrow2 hR2 x0 x1;obtain⟨x0,x1⟩:=box2 hb2';clear hb1 hb2 hGe;go_wp2;go_loopw [16] (λi wr=>∃(k:Nat) (xs:List Value),k<=fs.length/\i=.int .i64 k/\wr.ownsRow G 26 1 (.slice (some ⟨G,0,none⟩) fs.length fs.length) fs.length xs/\(∀j,j<k->∃vj,xs[j]? = some vj/\Ints wr vj (callI fs j)/\vj.ownBlock≠some G)/\wr.ownsMap prog 9 (plainElem (H:=Unit) prog 2) bn fs.length D/\bn<G/\G<wr.heap.size/\Below (w.heap.size+1) (w.alloc (.cells #[.slice ag ng cg,.slice af fs.length cf] 34)) wr) (λi _=>fs.length-(RowKit.intOf i).toNat)
 case atStart=>exact⟨0,xs2,y_,rfl,HR2,λj hj=>absurd hj o_,HM2,hbG0,hG,hb2'⟩
 case round=>
  clear HM2 HR2 hG hb2' x0 x1;obtain⟨k,xs,hk,rfl,hR,hX,hM,hbG,hG,hB⟩:=hrel;obtain⟨HR,HX,HM⟩:=h3 hR hX hM;have hBw:=one_below hB;clear hR hX hM;by_cases hlt:k<fs.length
  ·obtain⟨bf,of,rfl,hfc⟩:=HFC o_;obtain⟨vp,vb,⟨d0,d1,d2⟩,hps,hbs⟩:=(hfc.below hBw) k hlt;have hbl:bf<wr.heap.size:=b_ d0;obtain⟨HPs,HBs⟩:=h2 hps hbs;have HFs:Hid (smallF fs[k]):=HSm _ (g_ hlt);have HFw:Hid (wfFu fs[k]):=HW.o.2 _ (g_ hlt);have HCI:Hid (callI fs k=(callsL fs fs[k].body).map (λg:Nat=>(g:Int))):=by show _=_;unfold callI;simp[List.getD,hlt]
   obtain⟨ap,cp,rfl,-⟩:=hps;obtain⟨ab,cb,rfl,-⟩:=hbs;clear hfc;generalize fs[k]=f at d0 d1 d2 HPs HBs HFs HFw HCI;have hAr:Bl wr (wr.alloc (.cells #[.string f.name,.slice ap f.params.length cp,.slice ab f.body.length cb] 97)):=bel_a _ _;go_wp2_with fail;refine (callsOf_any fs f _ _ bn fs.length D _ o_ HFs HFw (HPs.o.below hAr) (HBs.o.below hAr) (map_below HM hAr) HN).mono ?_;rintro e w3 ⟨v3,rfl,hr3,hb3⟩;have hb3':Bl wr w3:=hAr.trans (hb3.mono hAr.size);have HI3:Hid (Ints w3 v3 (callI fs k)):=by
    show Ints _ _ _;rw[HCI.o];exact IRow.ints (B:=_) hr3
   have HV3:Hid (v3.ownBlock≠some G):=λh=>by
    have:=(World.ownsRow.lt hr3 G h).1
    simp at this;omega
   obtain⟨HR3,HM3⟩:=h2 (ownB HR hb3') (map_below HM hb3');have HX3:Hid (∀j,j<k->∃vj,xs[j]? = some vj/\Ints w3 vj (callI fs j)/\vj.ownBlock≠some G):=λj hj=>by
    obtain⟨vj,h1,h2,h3⟩:=HX j hj;exact⟨vj,h1,h2.below hb3',h3⟩
   have hsr:=hB.size;simp only[World.size_alloc] at hsr;have hB3:Below (w.heap.size+1) (w.alloc (.cells #[.slice ag ng cg,.slice (some ⟨bf,of,none⟩) fs.length cf] 34)) w3:=hB.trans (hb3'.mono hsr);have hG3:G<w3.heap.size:=l_ hG hb3'.size;have hlx:xs.length=fs.length:=by have:=HR.o.1;omega
   have g0:w3.cell? ⟨G,k,none⟩=some (xs[k]' o_):=by
    have:=World.ownsRow.cellAt HR3.o k o_
    rw[this];simp[hlx,hlt]
   have gf:=World.ownsRow.frozenAt HR3 k;obtain⟨y,hy⟩ : ∃y,y=xs[k]' o_:=⟨_,rfl⟩;rw[<-hy] at g0;obtain⟨a3,c3,hv3⟩:=IRow.shape (B:=_) hr3;clear hr3 hb3 hb3' d0 d1 d2 hy HR HX HM hAr;have HR4:=hide ((World.ownsRow.stored HR3 k v3).1);have HX4:Hid (∀j,j<k+1->∃vj,(xs.set k v3)[j]? = some vj/\Ints (w3.setCell ⟨G,k,none⟩ v3) vj (callI fs j)/\vj.ownBlock≠some G):=λj hj=>by
    by_cases e:j=k
    ·subst e;exact⟨v3,by simp[hlx,hlt],HI3.o.set HV3 _ _,HV3⟩
    ·obtain⟨vj,h1,h2,h3⟩:=HX3 j o_;exact⟨vj,by rw[List.getElem?_set_ne (λh=>e h.symm)];exact h1,h2.set h3 _ _,h3⟩
   have HM4:Hid ((w3.setCell ⟨G,k,none⟩ v3).ownsMap prog 9 (plainElem (H:=Unit) prog 2) bn fs.length D):=by
    obtain⟨es,clock,h0,F,hs,hD⟩:=HM3;exact⟨es,clock,(Below.heap_setCell _ _ _ bn (λh=>by simp at h;omega)).trans h0,F,hs,hD⟩
   subst hv3;go_wp2;go_roundw
   case rel=>exact⟨k+1,_,by omega,by go_num,HR4,HX4,HM4,hbG,by simpa using hG3,hB3.setCell (p:=⟨G,k,none⟩) hwG _⟩
   case measure=>simp[RowKit.intOf];omega
  ·have hkk:k=fs.length:=by omega
   subst hkk;clear hB;go_wp2;go_ret;refine⟨_,rfl,⟨G,fs.length,rfl,λj hj => ?_⟩,hBw⟩;obtain⟨vj,h1,h2,-⟩:=HX j hj;exact⟨vj,(World.ownsRow.cellAt HR j o_).trans h1,h2⟩
end
section
variable {B:Nat} {w:World} {v:Value} {l:List Nat}
theorem tl_nil (n:Nat):tl n []=List.replicate n (.bool false):=by
 apply List.ext_getElem
 ·simp[tl]
 ·intro i h1 h2;simp[tl]
theorem IRow.cut {x:Nat} (h:IRow B w v (l++[x])) : ∃g cap,v=.slice (some ⟨g,0,none⟩) (l.length+1) cap/\B<=g/\l.length+1<=cap/\cap<=maxLen/\w.cell? ⟨g,l.length,none⟩=some (.int .i64 (x:Int))/\IRow B w (.slice (some ⟨g,0,none⟩) l.length cap) l:=by
 have h0:=h;obtain⟨g1,g2⟩:=h;rcases g2 with ⟨_,hz⟩|⟨g,cap,cur,rfl,g3,g4,g5,g6,g7,g8⟩
 ·simp at hz
 ·simp only[l_a,l_c,l_n,Nat.zero_add,Nat.mul_one,List.map_append,List.map_cons,List.map_nil] at g1 g5 g7 g8;refine⟨g,cap,by simp,g3,g5,g6,?_,by simp,.inr ⟨g,cap,cur,rfl,g3,g4,by omega,g6,by omega,?_⟩⟩
  ·have:=World.ownsRow.cellAt h0 l.length (by simp)
   rw[this];simp
  ·rw[Nat.mul_one];have e:cur.toList.take l.length=(cur.toList.take (l.length+1)).take l.length:=by rw[List.take_take];congr 1;omega
   rw[e,g8];simp
theorem irow_one (W:World) (B:Nat) (hB:B<=W.heap.size) (x:Nat):IRow B (W.alloc (.cells #[.int .i64 (x:Int)] 2)) (.slice (some ⟨W.heap.size,0,none⟩) 1 1) [x]:=World.ownsRow_lit W #[.int .i64 (x:Int)] 1 hB (by decide) rfl
theorem IRow.set {g o:Nat} {u:Value} (h:IRow B w v l) (hg:g<B):IRow B (w.setCell ⟨g,o,none⟩ u) v l:=by
 obtain⟨g1,g2⟩:=h;refine⟨g1,?_⟩;rcases g2 with g2|⟨b,cap,cur,rfl,g3,g4,g5⟩
 ·exact .inl g2
 ·refine .inr ⟨b,cap,cur,rfl,g3,?_,g5⟩;rw[Below.heap_setCell _ _ _ b (λh=>by simp at h;omega)];exact g4
theorem reached_any (t:Tr) (vgr:Value) (f:Nat) (w:World) (hf:f<t.funcs.length) (hl:t.funcs.length<=1000) (hg:Graph w vgr t.funcs) :
  Calls prog 85 #[vgr,.int .i64 (f:Int)] w λe w'=>∃v out,e=.returned v/\TRow w.heap.size w' v t.funcs.length out/\(∀g,g∈out↔Rch t f g)/\Below w.heap.size w w':=by
 obtain⟨G,cap,rfl,hgc⟩:=hg;have HG:=hide hgc;obtain⟨i0,hi,hz0,hz1,hz2⟩:=info_parts info_bool;obtain⟨i1,hj,hy0,hy1,hy2⟩:=info_parts info_i64;clear hgc;obtain⟨n,hn⟩ : ∃n,n=t.funcs.length:=⟨_,rfl⟩;rw[<-hn] at hf hl HG ⊢;have HN:=hide hn;clear hn;go_enter func85,ntmps85;go_wp2_with (at_make;refine wpList_make_full _ rfl _ _ 139 rfl w.heap.size 4 i0 (.bool false) 1 underlying139 hi hz0 hz1 _ _ _ _ n rfl rfl o_ o_ ?_ ?_ n_ ?_)
 ·rw[hz2];omega
 ·unfold maxLen;omega
 intro w1 hown1 hgrow1;have hb1:Bl w w1:=r_.grown hgrow1 n_ (by simp);have HT1:Hid (TRow w.heap.size w1 (.slice (some ⟨w.heap.size,0,none⟩) n n) n []):=by
  show World.ownsRow _ _ _ _ _ _ _;rw[tl_nil,<-toList_madeCells_one];exact hown1
 have hs1:w.heap.size<w1.heap.size:=(World.ownsRow.lt hown1 w.heap.size rfl).2;obtain⟨F,hF⟩ : ∃F,F=w.heap.size:=⟨_,rfl⟩;rw[<-hF] at HT1 hs1 ⊢;have HFw:=hide hF;clear hown1 hgrow1 hF;go_wp2_with fail;have HI1:=hide (irow_one w1 _ hs1 f);have HT2:Hid (TRow F (w1.alloc (.cells #[.int .i64 (f:Int)] 2)) (.slice (some ⟨F,0,none⟩) n n) n []):=HT1.o.below (bel_a _ _);have hB1:Bl w (w1.alloc (.cells #[.int .i64 (f:Int)] 2)):=hb1.alloc hb1.size _;go_loopg [6] (n+1) (λgk lv wr=>∃(out work:List Nat),gk=(n-out.length)+work.length/\gk<=n+1/\RInv t f out work/\TRow F wr (.slice (some ⟨F,0,none⟩) n n) n out/\IRow (F+1) wr lv work/\F<wr.heap.size/\Bl w wr)
 case atStart=>exact⟨[],[f],by simp,n_,RInv.start t f,HT2,HI1,by simp;omega,hB1⟩
 case round=>
  clear HI1 HT1 HT2 hB1 hb1 hs1;obtain⟨out,work,hgk,hgn,hI,hT,hW,hFs,hB⟩:=hrel;rcases List.eq_nil_or_concat work with rfl|⟨rest,x,rfl⟩
  ·have HE:Hid (∀g,g∈out↔Rch t f g):=λg=>hI.all g;have HT:=hide hT;obtain⟨a6,c6,rfl⟩:=hW.shape;simp only[l_n];clear hT hW hI;go_wp2;go_ret;exact⟨_,out,rfl,by rw[<-HFw.o];exact HT,HE,hB⟩
  ·simp only[List.concat_eq_append] at hgk hI hW;have hxn:x<n:=by have:=hI.lt (by rw[<-HN.o];exact hf) x (by simp);rw[HN.o];exact this
   have HM:Hid (RMid t f x [] out rest):=hI.take (by simp) (λy=>by simp[or_comm]);obtain⟨g6,c6,rfl,hg6,hc61,hc62,q6,hW2⟩:=hW.cut;have HW2:=hide hW2;have HT:=hide hT;obtain⟨vx,qx,hix⟩:=HG x hxn;have qx':=(hB.cell (p:=⟨G,x,none⟩) (b_ qx)).trans qx;obtain⟨L,hL⟩ : ∃L,L=callsL t.funcs (t.funcs.getD x ⟨⟨#[]⟩,[],[]⟩).body:=⟨_,rfl⟩;have HL:Hid (∀y,CallR t x y↔y∈L):=λy=>by
    rw[hL];unfold CallR;exact⟨λh=>h.2,λh=>⟨by rw[<-HN.o];exact hxn,h⟩⟩
   have HCI:Hid (callI t.funcs x=L.map (λg:Nat=>(g:Int))):=by show _=_;rw[hL];rfl
   obtain⟨ax,cx,hvx,hxc⟩:=hix;have hlen:(callI t.funcs x).length=L.length:=by rw[HCI.o];simp
   rw[hlen] at hvx;subst hvx;have HXC:Hid (0<L.length->∃b,ax=some ⟨b,0,none⟩/\∀j (h:j<L.length),w.cell? ⟨b,j,none⟩=some (.int .i64 (L[j]:Int))):=λh0=>by
    obtain⟨b,rfl,hc⟩:=hxc o_;refine⟨b,rfl,λj hj => ?_⟩;have:=hc j o_
    rw[this];simp[HCI.o]
   have hLn:L.length<=1000:=by
    have h1:L.Nodup:=by
     rw[hL];unfold callsL;exact List.Pairwise.filter _ (List.nodup_range)
    have h2:=nodup_le n h1 (λy hy=>by have:=((HL.o y).2 hy).lt;rw[HN.o];exact this);omega
   have hrl:rest.length<=2000:=by simp at hgk;omega
   have hgk':(n-out.length)+rest.length+1=gk:=by simp at hgk;omega
   have hsl : ∀W:World,(Instr.slice 26 (.slice (some ⟨g6,0,none⟩) (rest.length+1) c6) none (some (.int .i64 (rest.length:Int))) none).run prog W=.ok (.slice (some ⟨g6,0,none⟩) rest.length c6) W:=by
    intro W;have hz:prog.elem 26=2:=by kernel_rfl
    have hs:(sizeOf 2).run prog W=.ok 1 W:=by kernel_rfl
    rw[run_slice_h W 26 (some ⟨g6,0,none⟩) (rest.length+1) c6 (by rw[hz];exact underlying26) .i64 _ o_ o_,hz,hs];simp[Result.andThen,sliced,Addr.add]
   have hon:=HM.o.len;rw[<-HN.o] at hon;clear hI hT hW hW2 hxc hlen hL hgk qx;go_wp2;go_loopw [6,34] (λlv i w4=>∃(j:Nat) (out2 work2:List Nat),j<=L.length/\i=.int .i64 j/\RMid t f x (L.take j) out2 work2/\TRow F w4 (.slice (some ⟨F,0,none⟩) n n) n out2/\IRow (F+1) w4 lv work2/\out2.length+rest.length=out.length+work2.length/\F<w4.heap.size/\Bl w w4) (λ_ i _=>L.length-(RowKit.intOf i).toNat)
   case atStart=>exact⟨0,out,rest,y_,rfl,by simpa using HM.o,HT.o,HW2.o,rfl,hFs,hB⟩
   case round=>
    clear HM HW2 HT q6 qx' hB hFs hsl;obtain⟨j,out2,work2,hj2,rfl,hM,hT,hW,hlw,hFs,hB⟩:=hrel;have HM:=hide hM;have HT:=hide hT;have hon2:=hM.len;rw[<-HN.o] at hon2;obtain⟨a6,c7,rfl⟩:=hW.shape;have HW:Hid (IRow (F+1) wr (.slice a6 work2.length c7) work2):=hW;clear hM hW;by_cases hjl:j<L.length
    ·obtain⟨bx,rfl,hcx⟩:=HXC o_;have d0:=(hB.cell (p:=⟨bx,j,none⟩) (b_ (hcx j hjl))).trans (hcx j hjl);have HT1:Hid (L.take (j+1)=L.take j++[L[j]]):=take_succ L j hjl;have hyc:CallR t x L[j]:=(HL _).2 (g_ hjl);have hyn:L[j]<n:=by have:=hyc.lt;rw[HN.o];exact this
     have HYC:=hide hyc;clear hcx hyc;generalize L[j]=y at d0 HT1 hyn HYC;obtain⟨t0,tf⟩:=hT.cell y hyn;clear hT;by_cases hy:y∈out2
     ·rw[decide_eq_true hy] at t0;have HM2:Hid (RMid t f x (L.take (j+1)) out2 work2):=by show RMid _ _ _ _ _ _;rw[HT1.o];exact HM.o.old hy
      clear hy;go_wp2;go_roundw
      case rel=>exact⟨j+1,out2,work2,by omega,by go_num,HM2,HT,HW,hlw,hFs,hB⟩
      case measure=>simp[RowKit.intOf];omega
     ·rw[decide_eq_false hy] at t0;have HM2:Hid (RMid t f x (L.take (j+1)) (out2++[y]) (work2++[y])):=by show RMid _ _ _ _ _ _;rw[HT1.o];exact HM.o.new hy HYC
      have HTp:=hide (HT.o.put y hyn);have HWp:Hid (IRow (F+1) (wr.setCell ⟨F,y,none⟩ (.bool true)) (.slice a6 work2.length c7) work2):=HW.o.set (Nat.lt_succ_self _);have hBp:Bl w (wr.setCell ⟨F,y,none⟩ (.bool true)):=hB.setCell (p:=⟨F,y,none⟩) (by rw[HFw.o];exact n_) _;have hsp:(wr.setCell ⟨F,y,none⟩ (.bool true)).heap.size=wr.heap.size:=by simp
      have hwl:work2.length<=2000:=by omega
      clear hy;go_wp2_with (at_builtin;refine wpList_appF rfl _ _ _ rfl (F+1) 2 i1 _ 1 8 underlying26 hj hy0 hy1 hy2 rfl (by decide) _ work2.length (work2.map (λg:Nat=>Value.int .i64 (g:Int))) rfl (HWp.o.below (bel_a _ _)) ⟨wr.heap.size,0,none⟩ 1 1 [.int .i64 (y:Int)] rfl rfl (by rw[<-hsp];exact cell_one_new _ _ _) (by simp[Value.oneCell']) o_ (by decide) (by simp;omega) ?_)
      intro v9 w9 ho9 hg9 hf9;have HW9:Hid (IRow (F+1) w9 v9 (work2++[y])):=by
       show World.ownsRow _ _ _ _ _ _ _;simpa using ho9
      have hrow : ∀g,(Value.slice a6 work2.length c7).ownBlock=some g->F+1<=g:=λg hg=>(World.ownsRow.lt HWp g hg).1;have HT9:=hide (ownG (HTp.o.below (bel_a _ _)) hg9 (λg hg h=>by simp only[Value.ownBlock,Option.some.injEq] at hg;have:=hrow g h;omega));have hB9:Bl w w9:=(hBp.alloc hBp.size _).grown hg9 (by have:=hBp.size;simp;simp at this;omega) (λg hg=>by have:=hrow g hg;have:=HFw.o;omega);have hF9:F<w9.heap.size:=by have:=hg9.size;simp at this;omega
      obtain⟨a9,c9,rfl⟩:=HW9.o.shape;have hle9:(work2++[y]).length=work2.length+1:=by simp
      rw[hle9] at HW9 ⊢;clear ho9 hg9 hf9 d0 t0 tf HW HT HM;go_wp2;go_roundw
      case rel=>exact⟨j+1,out2++[y],work2++[y],by omega,by go_num,HM2,HT9,HW9,by simp;omega,hF9,hB9⟩
      case measure=>simp[RowKit.intOf];omega
    ·have HMd:Hid (RInv t f out2 work2):=by
      have h1:=HM;rw[List.take_of_length_le o_] at h1;exact h1.done (λy hy=>(HL y).1 hy)
     clear hT;go_wp2;go_roundg ((n-out2.length)+work2.length)
     case measure=>omega
     case rel=>exact⟨out2,work2,rfl,by omega,HMd,HT,HW,hFs,hB⟩
end
end Go.Proofs.YtffnkkpmlplfeaaGreatDoor
