import Derived.Test.YtffnkkpmlplfeaaGreatDoorN39
import Derived.Deep.RegionHeld3
namespace Go.Proofs.YtffnkkpmlplfeaaGreatDoor
open Go.Proofs.Tryz
set_option linter.all false
set_option maxRecDepth 100000
set_option maxHeartbeats 16000000
variable[Inhabited Pick]
section
open Go.RowKit
variable {L l:List Nat} {j B n g c:Nat} {w w':World} {v:Value}
def flt (L:List Nat) (j:Nat):List Nat:=(List.range j).filter (λg=>decide (g∈L))
theorem flt_yes (h:j∈L):flt L (j+1)=flt L j++[j]:=by simp[flt,List.range_succ,List.filter_append,h]
theorem flt_no (h : ¬j∈L):flt L (j+1)=flt L j:=by simp[flt,List.range_succ,List.filter_append,h]
theorem flt_len (L:List Nat) (j:Nat):(flt L j).length<=j:=by
 have:=List.length_filter_le (λg=>decide (g∈L)) (List.range j)
 simpa[flt] using this
def IRow (B:Nat) (w:World) (v:Value) (l:List Nat):Prop:=w.ownsRow B 2 1 v l.length (l.map (λg:Nat=>Value.int .i64 (g:Int)))
theorem IRow.shape (h:IRow B w v l) : ∃a c,v=.slice a l.length c:=by
 rcases h.2 with ⟨rfl,hz⟩|⟨g,cap,cur,rfl,_⟩
 ·exact⟨none,0,by rw[hz]⟩
 ·exact⟨_,cap,rfl⟩
theorem IRow.below (h:IRow B w v l) (hb:Below w.heap.size w w'):IRow B w' v l:=ownB h hb
theorem irow_lit (W:World) (B:Nat) (hB:B<=W.heap.size):IRow B (W.alloc (.cells #[] 2)) (.slice (some ⟨W.heap.size,0,none⟩) 0 0) []:=World.ownsRow_lit W #[] 0 hB (by decide) rfl
theorem IRow.ints (h:IRow B w v l):Ints w v (l.map (λg:Nat=>(g:Int))):=by
 refine own_ints (N:=B) ?_;rw[List.length_map,List.map_map];exact h
def tl (n:Nat) (L:List Nat):List Value:=(List.range n).map (λg=>Value.bool (decide (g∈L)))
theorem tl_snoc (n:Nat):tl n []++[.bool false]=tl (n+1) []:=by simp[tl,List.range_succ]
theorem tl_at (n:Nat) (L:List Nat) (g:Nat) (h:g<n):(tl n L)[g]? = some (.bool (decide (g∈L))):=by simp[tl,h]
theorem tl_set (n:Nat) (L:List Nat) (g:Nat) (h:g<n):(tl n L).set g (.bool true)=tl n (L++[g]):=by
 apply List.ext_getElem
 ·simp[tl]
 ·intro i h1 h2;rw[List.getElem_set];by_cases e:g=i
  ·subst e;simp[tl]
  ·rw[if_neg e];have e' : ¬i=g:=λh=>e h.symm;simp[tl,e']
def TRow (B:Nat) (w:World) (v:Value) (n:Nat) (L:List Nat):Prop:=w.ownsRow B 4 1 v n (tl n L)
theorem info_bool:(prog.info? 4).map (λi=>(i.zero,i.size,i.bytes))=some (some (.bool false),1,1):=by kernel_rfl
theorem info_i64:(prog.info? 2).map (λi=>(i.zero,i.size,i.bytes))=some (some (.int .i64 0),1,8):=by kernel_rfl
theorem TRow.below (h:TRow B w v n L) (hb:Below w.heap.size w w'):TRow B w' v n L:=ownB h hb
theorem TRow.form (h:TRow B w v n L) (hn:0<n) : ∃g c,v=.slice (some ⟨g,0,none⟩) n c/\B<=g/\g<w.heap.size:=by
 have h0:=h;rcases h.2 with ⟨_,hz⟩|⟨g,cap,cur,rfl,hbg,_⟩
 ·omega
 ·exact⟨g,cap,rfl,hbg,(World.ownsRow.lt h0 g rfl).2⟩
theorem TRow.shape (h:TRow B w v n L) : ∃a c,v=.slice a n c:=by
 rcases h.2 with ⟨rfl,hz⟩|⟨g,cap,cur,rfl,_⟩
 ·exact⟨none,0,by rw[hz]⟩
 ·exact⟨_,cap,rfl⟩
theorem trow_lit (W:World) (B:Nat) (hB:B<=W.heap.size):TRow B (W.alloc (.cells #[] 4)) (.slice (some ⟨W.heap.size,0,none⟩) 0 0) 0 []:=World.ownsRow_lit W #[] 0 hB (by decide) rfl
theorem TRow.cell (h:TRow B w (.slice (some ⟨g,0,none⟩) n c) n L) (j:Nat) (hj:j<n):w.cell? ⟨g,j,none⟩=some (.bool (decide (j∈L)))/\w.frozen? ⟨g,j,none⟩=false:=by
 refine⟨?_,World.ownsRow.frozenAt h j⟩;have:=World.ownsRow.cells h (g:=g) rfl j _ (tl_at n L j hj)
 rw[addrO] at this;simpa using this
theorem TRow.put (h:TRow B w (.slice (some ⟨g,0,none⟩) n c) n L) (j:Nat) (hj:j<n):TRow B (w.setCell ⟨g,j,none⟩ (.bool true)) (.slice (some ⟨g,0,none⟩) n c) n (L++[j]):=by
 have:=(World.ownsRow.stored h j (.bool true)).1
 rw[tl_set n L j hj] at this;exact this
theorem Nodes.set {ns:List Nd} (h:Nodes w v ns) (hne:v.ownBlock≠some g) (o:Nat) (u:Value):Nodes (w.setCell ⟨g,o,none⟩ u) v ns:=by
 obtain⟨a,cap,rfl,h1,h2,h3⟩:=h;refine⟨a,cap,rfl,h1,h2,λh0 => ?_⟩;obtain⟨b,off,rfl,hc⟩:=h3 h0;have hb:b≠g:=λe=>hne (by simp[Value.ownBlock,e]);refine⟨b,off,rfl,λj hj => ?_⟩;obtain⟨c0,c1,c2⟩:=hc j hj;refine⟨?_,?_,?_⟩
 ·rw[s_ _ _ _ _ (by intro h;simp only[Addr.mk.injEq] at h;exact hb h.1.symm)];exact c0
 ·rw[s_ _ _ _ _ (by intro h;simp only[Addr.mk.injEq] at h;exact hb h.1.symm)];exact c1
 ·rw[s_ _ _ _ _ (by intro h;simp only[Addr.mk.injEq] at h;exact hb h.1.symm)];exact c2
theorem nrow_lit0 (W:World) (B:Nat) (hB:B<=W.heap.size):NRow B (W.alloc (.cells #[] 134)) (.slice (some ⟨W.heap.size,0,none⟩) 0 0) []:=
 World.ownsRow_lit W #[] 0 hB (by decide) rfl
theorem bcellD {W w1:World} (hb:Below W.heap.size W w1):(∀b o,b<W.heap.size->w1.cell? ⟨b,o,none⟩=W.cell? ⟨b,o,none⟩)/\(∀b o,b<W.heap.size->w1.frozen? ⟨b,o,none⟩=W.frozen? ⟨b,o,none⟩):=
 ⟨λb o h=>hb.cell (p:=⟨b,o,none⟩) h,λb o h=>hb.frozen (p:=⟨b,o,none⟩) h⟩
theorem IRow.base {B':Nat} (h:IRow B w v l) (hb:B'<=B):IRow B' w v l:=by
 obtain⟨g1,g2⟩:=h;refine⟨g1,?_⟩;rcases g2 with g2|⟨g,cap,cur,rfl,g3,g4⟩
 ·exact .inl g2
 ·exact .inr ⟨g,cap,cur,rfl,t_ hb g3,g4⟩
theorem l3calls_row (fs:List Fu) (vg vf:Value) (p:Nat) (w:World) (hp:p<fs.length) (hl:fs.length<=1048576) (hsm:smallF fs[p]) (hg : ∃a n c,vg=.slice a n c) (hf:Funcs w vf fs) :
  Calls prog 92 #[.agg #[vg,vf],.int .i64 (p:Int)] w λe w'=>∃v,e=.returned v/\IRow w.heap.size w' v (callsL fs fs[p].body)/\Below w.heap.size w w':=by
 obtain⟨ag,ng,cg,rfl⟩:=hg;have HF:=hide hf;obtain⟨af,cf,rfl,-,-,hfc⟩:=hf;obtain⟨b,off,rfl,hc⟩:=hfc o_;obtain⟨vp,vb,⟨d0,d1,d2⟩,-,hb⟩:=hc p hp;have hlb:b<w.heap.size:=b_ d0;have HD2:=hide d2;obtain⟨ab,cb,rfl,-,-,hbc⟩:=hb;have HBC:=hide hbc;have HSm:Hid (∀s∈fs[p].body,smallS s):=hsm.2.2;have hbl:fs[p].body.length<=1048576:=hsm.2.1;clear hfc hc d0 d1 d2 hbc hsm;generalize fs[p].body=body at HD2 HBC HSm hbl ⊢;obtain⟨i0,hi,hz0,hz1,hz2⟩:=info_parts info_bool;obtain⟨i1,hj,hy0,hy1,hy2⟩:=info_parts info_i64;go_enter func92,ntmps92;go_wp2_with fail;go_loopw [5,6] (λv i wr=>∃k:Nat,k<=fs.length/\i=.int .i64 k/\TRow (w.heap.size+1) wr v k []/\Below (w.heap.size+1) (w.alloc (.cells #[.slice ag ng cg,.slice (some ⟨b,off,none⟩) fs.length cf] 34)) wr) (λ_ i _=>fs.length-(RowKit.intOf i).toNat)
 case atStart=>exact⟨0,y_,rfl,(by have:=trow_lit (w.alloc (.cells #[.slice ag ng cg,.slice (some ⟨b,off,none⟩) fs.length cf] 34)) (w.heap.size+1) (by simp);rw[World.size_alloc] at this;exact this),r_.alloc (by simp) _⟩
 case round=>
  obtain⟨k,hk,rfl,hR,hB⟩:=hrel;obtain⟨a5,c5,rfl⟩:=hR.shape;have HR:=hide hR;obtain⟨x0,x1⟩:=box2 hB;have hs1:w.heap.size+1<=wr.heap.size:=by have:=hB.size;simpa using this
  by_cases hlt:k<fs.length
  ·clear hR;go_wp2_with (at_builtin;refine wpList_appF rfl _ _ _ rfl (w.heap.size+1) 4 i0 _ 1 1 underlying139 hi hz0 hz1 hz2 rfl (by decide) _ k (tl k []) rfl (HR.o.below (bel_a _ _)) ⟨wr.heap.size,0,none⟩ 1 1 [.bool false] rfl rfl (cell_one_new _ _ _) (by simp[Value.oneCell']) o_ (by decide) (by simp;omega) ?_)
   intro v1 w1 ho1 hg1 hf1;rw[tl_snoc] at ho1;have HR1:Hid (TRow (w.heap.size+1) w1 v1 (k+1) []):=ho1;have hB1:Below (w.heap.size+1) (w.alloc (.cells #[.slice ag ng cg,.slice (some ⟨b,off,none⟩) fs.length cf] 34)) w1:=(hB.alloc hs1 _).grown hg1 (by simp;omega) (λg hg=>(World.ownsRow.lt HR g hg).1);obtain⟨a6,c6,rfl⟩:=HR1.o.shape;clear ho1 hg1 hf1;go_wp2_with fail;go_roundw
   case rel=>exact⟨k+1,by omega,by go_num,HR1,hB1⟩
   case measure=>simp[RowKit.intOf];omega
  ·have hkk:k=fs.length:=by omega
   subst hkk;obtain⟨g5,c5',he,hg5,hg5'⟩:=hR.form o_;simp only[Value.slice.injEq,true_and] at he;obtain⟨rfl,rfl⟩:=he;have hB1:=one_below hB;have dB:=(hB1.cell (p:=⟨b,off+p*3+2,none⟩) hlb).trans HD2;clear hR;go_wp2_with fail;clear dB x0 x1;go_loopw [8] (λi w2=>∃q:Nat,q<=body.length/\i=.int .i64 q/\TRow (w.heap.size+1) w2 (.slice (some ⟨g5,0,none⟩) fs.length c5) fs.length (callN fs (nodesOf (body.take q)))/\g5<w2.heap.size/\Below (w.heap.size+1) (w.alloc (.cells #[.slice ag ng cg,.slice (some ⟨b,off,none⟩) fs.length cf] 34)) w2) (λi _=>body.length-(RowKit.intOf i).toNat)
   case atStart=>exact⟨0,y_,rfl,HR,hg5',hB⟩
   case round=>
    clear hB hB1 HR hs1 hg5';obtain⟨q,hq,rfl,hR,hg5',hB⟩:=hrel;have HR:=hide hR;have hs1:w.heap.size+1<=wr.heap.size:=by have:=hB.size;simpa using this
    have hB1:=one_below hB;clear hR;by_cases hlt:q<body.length
    ·obtain⟨b',off',rfl,hc⟩:=HBC o_;obtain⟨ve,vf,⟨c0,c1,c2,c3,c4,c5x⟩,he,hf⟩:=(hc.below hB1) q hlt;have hlb':b'<wr.heap.size:=b_ c0;have HE:Hid (nodesOf (body.take (q+1))=nodesOf (body.take q)++(body[q].e++body[q].f)):=by show _=_;rw[take_succ body q hlt,nodesOf_snoc]
     have HS:Hid (smallS body[q]):=HSm _ (g_ hlt);clear hc c0 c1 c4 c5x;generalize body[q]=s at c2 c3 he hf HE HS;generalize nodesOf (body.take q)=pre at HR HE;obtain⟨HNe,HNf⟩:=h2 he hf;obtain⟨ae,ce,rfl,-⟩:=he;obtain⟨af,cf',rfl,-⟩:=hf;have he1:s.e.length<=1048576:=HS.o.1;have hf1:s.f.length<=1048576:=HS.o.2;have hbW:Bl wr (wr.drew.alloc (.cells #[] 134)):=((Below.refl wr.heap.size wr).drew).alloc n_ _;have HNe0:=hide (HNe.o.below hbW);have HR0:Hid (NRow wr.heap.size (wr.drew.alloc (.cells #[] 134)) (.slice (some ⟨wr.heap.size,0,none⟩) 0 0) []):=nrow_lit0 wr.drew _ n_;have hn0:wr.heap.size<=(wr.drew.alloc (.cells #[] 134)).heap.size:=hbW.size;have hne2:=World.new_ne wr ⟨b',off'+q*6+2,none⟩ c2;have hne3:=World.new_ne wr ⟨b',off'+q*6+3,none⟩ c3;go_wp2_with fail;go_region_held_law (λW=>W.cell? ⟨b',off'+q*6+2,none⟩=some (.slice ae s.e.length ce)/\W.cell? ⟨b',off'+q*6+3,none⟩=some (.slice af s.f.length cf')) (first|go_keep|(go_split_ands;exact⟨y0,y1⟩)|(go_split_ands;exact⟨z0,z1⟩))
      (first
      | (refine step_appN (by rfl) _ _ (by rfl) wr.heap.size (.slice (some ⟨wr.heap.size,0,none⟩) 0 0) [] (by rfl) HR0 (.slice ae s.e.length ce) s.e (by rfl) HNe0 (by simp;omega) hn0 ?_;intro v1 w1 hr1 hg1 hf1;have hb1:Bl wr w1:=hbW.grown hg1 hn0 (λj hj=>by cases hj;exact n_);have y0:=((bcellD hb1).1 b' (off'+q*6+2) hlb').trans c2;have y1:=((bcellD hb1).1 b' (off'+q*6+3) hlb').trans c3)
      | (refine step_appN (by rfl) _ _ (by rfl) wr.heap.size v1 s.e (by rfl) hr1 (.slice af s.f.length cf') s.f (by rfl) (HNf.o.below hb1) o_ hb1.size ?_;intro v2 w2 hr2 hg2 hf2;have hb2:Bl wr w2:=hb1.grown hg2 hb1.size (λj hj=>(World.ownsRow.lt hr1 j hj).1);have z0:=((bcellD hb2).1 b' (off'+q*6+2) hlb').trans c2;have z1:=((bcellD hb2).1 b' (off'+q*6+3) hlb').trans c3))
     have HAl:Hid (Nodes w2 v2 (s.e++s.f)):=hr2.nodes;have hv2:v2.ownBlock≠some g5:=λh=>by have:=(World.ownsRow.lt hr2 g5 h).1;omega
     obtain⟨HR2,HB2⟩:=h2 (HR.o.below hb2) (hB.trans (hb2.mono hs1));have hg52:g5<w2.heap.size:=l_ hg5' hb2.size;have hal:(s.e++s.f).length<=2097152:=by simp;omega
     obtain⟨a9,c9,rfl,-⟩:=HAl.o
     clear hr1 hg1 hf1 hb1 hr2 hg2 hf2 hb2 y0 y1 z0 z1 c2 c3 hne2 hne3 hbW HNe0 HR0 hn0 HNe HNf HR
     generalize s.e++s.f=al at HAl hv2 hal HE ⊢
     go_wp2_with fail
     go_loopw [10] (λi w4=>∃j:Nat,j<=al.length/\i=.int .i64 j/\TRow (w.heap.size+1) w4 (.slice (some ⟨g5,0,none⟩) fs.length c5) fs.length (callN fs (pre++al.take j))/\g5<w4.heap.size/\Nodes w4 (.slice a9 al.length c9) al/\Below (w.heap.size+1) (w.alloc (.cells #[.slice ag ng cg,.slice (some ⟨b,off,none⟩) fs.length cf] 34)) w4) (λi _=>al.length-(RowKit.intOf i).toNat)
     case atStart=>exact⟨0,y_,rfl,by simpa using HR2.o,hg52,HAl.o,HB2.o⟩
     case round=>
      clear hB hB1 hs1 hg5' hg52 HAl HB2 HR2;obtain⟨j,hj,rfl,hR,hg5',hAl,hB⟩:=hrel;obtain⟨HR,HAl⟩:=h2 hR hAl;have hs1:w.heap.size+1<=wr.heap.size:=by have:=hB.size;simpa using this
      have hB1:=one_below hB;obtain⟨x0,x1⟩:=box2 hB;clear hR;by_cases hjl:j<al.length
      ·obtain⟨_,_,he0,-,-,hac⟩:=hAl;simp only[Value.slice.injEq,true_and] at he0;obtain⟨rfl,rfl⟩:=he0;obtain⟨b9,o9,rfl,hC⟩:=hac o_;obtain⟨c0,c1,c2⟩:=hC j hjl;have hl9:b9<wr.heap.size:=b_ c0;have HT:Hid (pre++al.take (j+1)=pre++al.take j++[al[j]]):=by show _=_;rw[take_succ al j hjl];simp
       have hl0:w.heap.size<wr.heap.size:=hs1;clear hC hac;generalize al[j]=n at c0 c1 c2 HT;generalize pre++al.take j=done at HR HT;by_cases h4:n.kind=4
       ·obtain⟨kd,vl,nm⟩:=n;simp only at c0 c1 c2 h4;subst h4;have HFw:=hide (HF.o.below (hB1.trans (r_.drew.mono hB1.size)));go_wp2_with fail;go_region_held3 (λW=>W.cell? ⟨w.heap.size,0,none⟩=some (.slice ag ng cg)/\W.cell? ⟨w.heap.size,1,none⟩=some (.slice (some ⟨b,off,none⟩) fs.length cf)/\W.cell? ⟨b9,o9+j*3+2,none⟩=some (.string nm)) (go_simp)
         (first
         | (go_at_call 32;refine (l3func_any fs _ _ nm _ hl HFw).mono ?_;rintro e w5 ⟨rfl,hb5⟩;have hcc : ∀b o,b<wr.heap.size->w5.cell? ⟨b,o,none⟩=wr.cell? ⟨b,o,none⟩:=(bcellD hb5).1))
        have hb5':Bl wr w5:=r_.drew.trans hb5;obtain⟨HR5,HAl5⟩:=h2 (HR.o.below hb5') (HAl.o.below hb5');have hB5:=hB.trans (hb5'.mono hs1);have hg55:g5<w5.heap.size:=l_ hg5' hb5'.size;clear hb5 hb5' c0 c1 c2 x0 x1 hcc;cases hv:fnum fs nm with
        | none=>
         have HC:Hid (callN fs (pre++al.take (j+1))=callN fs done):=by show _=_;rw[HT.o];exact callN_snoc_no (λ_=>hv)
         rw[fnumI_none hv];clear hv;go_wp2_with fail;go_roundw
         case rel=>exact⟨j+1,by omega,by go_num,by rw[HC.o];exact HR5,hg55,HAl5,hB5⟩
         case measure=>simp[RowKit.intOf];omega
        | some g=>
         have HC:Hid (callN fs (pre++al.take (j+1))=callN fs done++[g]):=by show _=_;rw[HT.o];exact callN_snoc_yes rfl hv
         have hgl:g<fs.length:=fnum_lt hv;obtain⟨⟨y0,t0⟩,f0⟩:(∃y,w5.cell? ⟨g5,g,none⟩=some y)/\w5.frozen? ⟨g5,g,none⟩=false:=⟨⟨_,(HR5.o.cell g hgl).1⟩,(HR5.o.cell g hgl).2⟩;rw[fnumI_some hv];clear hv;go_wp2_with fail;go_roundw
         case rel=>exact⟨j+1,by omega,by go_num,by rw[HC.o];exact HR5.o.put g hgl,by simpa using hg55,HAl5.o.set hv2 _ _,hB5.setCell hg5 _⟩
         case measure=>simp[RowKit.intOf];omega
       ·have HC:Hid (callN fs (pre++al.take (j+1))=callN fs done):=by show _=_;rw[HT.o];exact callN_snoc_no (λh=>absurd h h4)
        go_wp2_with fail;go_roundw
        case rel=>exact⟨j+1,by omega,by go_num,by rw[HC.o];exact HR,hg5',HAl,hB⟩
        case measure=>simp[RowKit.intOf];omega
      ·have HC:Hid (nodesOf (body.take (q+1))=pre++al.take j):=by show _=_;rw[HE.o,List.take_of_length_le o_]
       clear hAl x0 x1;go_wp2_with fail;go_roundw
       case rel=>exact⟨q+1,by omega,by go_num,by rw[HC.o];exact HR,hg5',hB⟩
       case measure=>simp[RowKit.intOf];omega
    ·have HC:Hid (nodesOf (body.take q)=nodesOf body):=by show _=_;rw[List.take_of_length_le o_]
     have HRq:Hid (TRow (w.heap.size+1) wr (.slice (some ⟨g5,0,none⟩) fs.length c5) fs.length (callN fs (nodesOf body))):=by have:=HR.o;rw[HC.o] at this;exact this
     have HCL:Hid (callsL fs body=flt (callN fs (nodesOf body)) fs.length):=rfl;generalize callN fs (nodesOf body)=L at HRq HCL;clear HR HC;go_wp2_with fail;have HO0:=hide (irow_lit wr _ n_);have HR0:Hid (TRow (w.heap.size+1) (wr.alloc (.cells #[] 2)) (.slice (some ⟨g5,0,none⟩) fs.length c5) fs.length L):=HRq.o.below (bel_a _ _);obtain⟨M,hM⟩ : ∃M,M=wr.heap.size:=⟨_,rfl⟩;have hg5M:g5<M:=by omega
     have hsM:w.heap.size<=M:=by omega
     rw[<-hM] at HO0;go_loopw [12,13] (λo i w2=>∃j:Nat,j<=fs.length/\i=.int .i64 j/\IRow M w2 o (flt L j)/\TRow (w.heap.size+1) w2 (.slice (some ⟨g5,0,none⟩) fs.length c5) fs.length L/\M<=w2.heap.size/\Bl w w2) (λ_ i _=>fs.length-(RowKit.intOf i).toNat)
     case atStart=>exact⟨0,y_,rfl,by rw[<-hM];exact HO0,HR0,by simp;omega,hB1.alloc hB1.size _⟩
     case round=>
      clear HO0 HR0 HRq hB hB1 hs1 hg5' hM;obtain⟨j,hj',rfl,hO,hR,hMs,hB⟩:=hrel;obtain⟨a6,c6,rfl⟩:=hO.shape;obtain⟨HO,HR⟩:=h2 hO hR;have hfl:=flt_len L j;clear hO;by_cases hjl:j<fs.length
      ·have t0:=(hR.cell j hjl).1;clear hR;by_cases hm:j∈L
       ·rw[decide_eq_true hm] at t0;have HE:Hid (flt L (j+1)=flt L j++[j]):=flt_yes hm;clear hm;go_wp2_with (at_builtin;refine wpList_appF rfl _ _ _ rfl M 2 i1 _ 1 8 underlying26 hj hy0 hy1 hy2 rfl (by decide) _ (flt L j).length ((flt L j).map (λg:Nat=>Value.int .i64 (g:Int))) rfl (HO.o.below (bel_a _ _)) ⟨wr.heap.size,0,none⟩ 1 1 [.int .i64 (j:Int)] rfl rfl (cell_one_new _ _ _) (by simp[Value.oneCell']) o_ (by decide) (by simp;omega) ?_)
        intro v1 w1 ho1 hg1 hf1;have HO1:Hid (IRow M w1 v1 (flt L (j+1))):=by
         show w1.ownsRow _ _ _ _ _ _;rw[HE.o];simpa using ho1
        have hrow : ∀g,(Value.slice a6 (flt L j).length c6).ownBlock=some g->M<=g:=λg hg=>(World.ownsRow.lt HO g hg).1;have HR1:Hid (TRow (w.heap.size+1) w1 (.slice (some ⟨g5,0,none⟩) fs.length c5) fs.length L):=ownG (HR.o.below (bel_a _ _)) hg1 (λg hg h=>by simp only[Value.ownBlock,Option.some.injEq] at hg;have:=hrow g h;omega);have hB1:Bl w w1:=(hB.alloc hB.size _).grown hg1 (by have:=hB.size;simp;omega) (λg hg=>by have:=hrow g hg;omega);have hM1:M<=w1.heap.size:=by have:=hg1.size;simp at this;omega
        obtain⟨a7,c7,rfl⟩:=HO1.o.shape;clear ho1 hg1 hf1;go_wp2_with fail;go_roundw
        case rel=>exact⟨j+1,by omega,by go_num,HO1,HR1,hM1,hB1⟩
        case measure=>simp[RowKit.intOf];omega
       ·rw[decide_eq_false hm] at t0;have HE:Hid (flt L (j+1)=flt L j):=flt_no hm;clear hm;go_wp2_with fail;go_roundw
        case rel=>exact⟨j+1,by omega,by go_num,by rw[HE.o];exact HO,HR,hMs,hB⟩
        case measure=>simp[RowKit.intOf];omega
      ·obtain rfl:j=fs.length:=by omega
       clear hR;go_wp2;go_ret;exact⟨_,rfl,by rw[HCL.o];exact IRow.base HO hsM,hB⟩
end
end Go.Proofs.YtffnkkpmlplfeaaGreatDoor
