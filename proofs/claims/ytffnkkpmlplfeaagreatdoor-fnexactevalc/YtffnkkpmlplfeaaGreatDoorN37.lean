import Derived.Test.YtffnkkpmlplfeaaGreatDoorN28
import Derived.Deep.CutRange
namespace Go.Proofs.YtffnkkpmlplfeaaGreatDoor
open Go.Proofs.Tryz
open Go.RowKit
set_option linter.all false
set_option maxRecDepth 100000
set_option maxHeartbeats 16000000
variable[Inhabited Pick]
variable {t:Tr}
theorem tree_sz (h:(checkE t).1=0):t.globals.length<=50/\t.funcs.length<=50/\∀g∈t.globals,0<=g.size/\g.size<=4000:=by
 obtain⟨h1,-,-⟩:=sound_snd h;simp only[treeB,Bool.and_eq_true,decide_eq_true_eq,List.all_eq_true] at h1;refine⟨h1.1,h1.2.1,λg hg => ?_⟩;have:=h1.2.2.1 g hg
 simp only[globB,Bool.and_eq_true,decide_eq_true_eq] at this;exact this.2
theorem main_par (h:(checkE t).1=0) {m:Nat} (hm:fnum t.funcs mainS=some m) : ∀hl:m<t.funcs.length,([]:List Int).length=t.funcs[m].params.length:=λhl=>by
 obtain⟨-,h1,-⟩:=sound_snd h;unfold namesE at h1;rw[hm] at h1;split at h1
 ·simp at h1
 ·split at h1
  ·simp at h1
  ·simp only at h1;have e:t.funcs.getD m ⟨⟨#[]⟩,[],[]⟩=t.funcs[m]:=by simp[List.getD,hl]
   rw[e] at h1;split at h1
   ·simp at h1
   ·simp;omega
theorem GI.drew {w1 w:World} {P:Nat} {gs:List Gl} {vG:Value} {gb:List Nat} (h:GI w1 P gs w vG gb):GI w1 P gs w.drew vG gb:=⟨h.ll,h.row,h.lw,h.nd,h.rng,h.lo,h.tc.drew⟩
theorem gln_or {g:Gl} (h:0<=g.size/\g.size<=4000):(gln g:Int)=(if g.size=0 then 1 else g.size)/\gln g<=4000/\1<=gln g:=by
 unfold gln;split
 ·simp
 ·refine⟨by omega,by omega,by omega⟩
theorem call_end {fr:List Int} {n f:Nat} {vs:List Int} {s:ES} {r:ER} {s':ES} (h:Ev t fr n (.c f vs) s r s'):(∃v,r=.val v)∨∃c,r=.out c/\c≠0:=by
 have ho:=h.outc;cases h using Ev_i with
 | run m _ _ _ hf rb z h1=>
  cases rb using ER.cs with
  | val v=>exact .inl ⟨v,rfl⟩
  | on=>exact .inl ⟨0,rfl⟩
  | ret v=>exact .inl ⟨v,rfl⟩
  | out c=>exact .inr ⟨c,rfl,by rcases ho c rfl with h|h <;> omega⟩
def EvA (r:ER) (s':ES) (F:Int) (w:World) (e:Ending) (w':World):Prop:=∃vO,e=.returned (.agg #[.int .i64 (stE r),vO,.int .i64 (valR r),.int .i64 (F-s'.u),.int .i64 s'.d])/\w'.ownsRow w.heap.size 2 1 vO s'.o.length (s'.o.map (Value.int .i64))/\Below w.heap.size w w'
theorem evalG_go (t:Tr) (vg vf vI vFr:Value) (i fr:List Int) (F:Int) (w:World) (hck : ∀X,Below w.heap.size w X->Calls prog 24 #[.agg #[vg,vf]] X λe w'=>(∃x y,e=.returned (.agg #[.int .i64 (checkE t).1,.int .i64 x,.int .i64 y]))/\Below X.heap.size X w') (hg:Globs w vg t.globals) (hf:Funcs w vf t.funcs) (hI:InN w vI i) (hFr:InN w vFr fr) (hil:i.length<=1048576) (hfl:fr.length<=1048576) (hfs:t.funcs.length<=1048576)
  (hck0:(checkE t).1=0) (hi0:i.length<=1000) (hw0:i.all inBb=true) (hF:0<=F/\F<=100000) (hfe2:fr.length=t.funcs.length) (hgood:fr.all frB=true) {m n:Nat} {r:ER} {s':ES} (hm:fnum t.funcs mainS=some m) (hEv:Ev t fr n (.c m []) (s00 t i F) r s') :
  Calls prog 7 #[.agg #[vg,vf],vI,.int .i64 F,vFr] w λe w'=>EvA r s' F w e w':=by
 obtain⟨HCk,HI,HGl,HFn,HFe,HCk0,HW0,HFr0,HGood⟩:=h9 hck hI hg hf hfe2 hck0 hw0 hFr hgood;obtain⟨ag,cg,rfl,-⟩:=hg;obtain⟨af,cf,rfl,-⟩:=hf;obtain⟨ai,ci,rfl,hi1,hi2,-⟩:=hI;obtain⟨ar,cr,rfl,hr1,hr2,-⟩:=hFr;obtain⟨W1,hW1⟩ : ∃W1,W1=(w.alloc (.cells #[.slice ag t.globals.length cg,.slice af t.funcs.length cf] 34)).alloc (.cells #[.int .i64 0,.slice none 0 0,.int .i64 0,.int .i64 0,.int .i64 0] 29):=⟨_,rfl⟩;have hb1:Bl w W1:=by rw[hW1];exact (bel_a _ _).alloc (by simp) _
 have HB1:=hide hb1;clear hck hb1 hgood;go_enter func7,ntmps7;go_wp2_with fail;rw[<-hW1];have hz1:W1.heap.size=w.heap.size+2:=by rw[hW1,World.size_alloc,World.size_alloc]
 have hfr:FrC W1 (w.heap.size+1) [.int .i64 0,.slice none 0 0,.int .i64 0,.int .i64 0,.int .i64 0]:=by
  rw[hW1];have:=box_fr (w.alloc (.cells #[.slice ag t.globals.length cg,.slice af t.funcs.length cf] 34)) #[.int .i64 0,.slice none 0 0,.int .i64 0,.int .i64 0,.int .i64 0] 29 (by decide)
  rw[World.size_alloc] at this;exact this
 have hft:FrC W1 w.heap.size [.slice ag t.globals.length cg,.slice af t.funcs.length cf]:=by
  rw[hW1];exact (box_fr w #[.slice ag t.globals.length cg,.slice af t.funcs.length cf] 34 (by show 2<=1000;omega)).below (bel_a _ _)
 obtain⟨HFr,HFt⟩:=h2 hfr hft;clear hW1 hfr hft;obtain⟨M,hM⟩ : ∃M,M=w.heap.size:=⟨_,rfl⟩;rw[<-hM] at HFr HFt hz1 ⊢;have HM:=hide hM;clear hM;refine (HCk W1 HB1).mono ?_;rintro e w2 ⟨⟨x,y,rfl⟩,hb2⟩;have hfr2:=HFr.o.below hb2;have hft2:=HFt.o.below hb2;have y0:=(hfr2 0 _ rfl).1;have z0:=(hfr2 0 _ rfl).2;have y1:=(hfr2 1 _ rfl).1;have z1:=(hfr2 1 _ rfl).2;have y2:=(hfr2 2 _ rfl).1;have z2:=(hfr2 2 _ rfl).2;have y3:=(hfr2 3 _ rfl).1;have z3:=(hfr2 3 _ rfl).2;have y4:=(hfr2 4 _ rfl).1;have z4:=(hfr2 4 _ rfl).2;have hbw2:Bl w w2:=HB1.o.trans (hb2.mono HB1.o.size);have HB2:=hide hbw2;have hfe:=fld_errE;rw[hck0];obtain⟨HFt2,Hfr2⟩:=h2 hft2 hfr2;clear hfr2 hft2 hb2 hbw2;have hft:=HFt2;have x1:=(hft 1 _ rfl).1;have h1' : ¬(1000:Int)<(i.length:Int):=by omega
 go_wp2_with fail;have hw2:Bl w w2:=HB2;refine (wordsG_any _ i w2 ⟨ai,ci,rfl,hi1,hi2,?_⟩ hil).mono ?_
 ·intro hpos;obtain⟨a',c',e',-,-,h3⟩:=HI;simp only[Value.slice.injEq] at e';obtain⟨rfl,-,rfl⟩:=e';obtain⟨b,off,rfl,hc⟩:=h3 hpos;exact⟨b,off,rfl,λj hj=>(hw2.cell (p:=⟨b,_,none⟩) (b_ (hc j hj))).trans (hc j hj)⟩
 rintro e w3 ⟨rfl,hb3⟩;have hf3:=Hfr2.o.below hb3;have hg3:=HFt2.o.below hb3;have HB3:=hide (HB2.o.trans (hb3.mono HB2.o.size));clear x1 y0 y1 y2 y3 y4 z0 z1 z2 z3 z4 hw2;have x1:=(hg3 1 _ rfl).1;have x0:=(hg3 0 _ rfl).1;have y0:=(hf3 0 _ rfl).1;have z0:=(hf3 0 _ rfl).2;have y1:=(hf3 1 _ rfl).1;have z1:=(hf3 1 _ rfl).2;have y2:=(hf3 2 _ rfl).1;have z2:=(hf3 2 _ rfl).2;have y3:=(hf3 3 _ rfl).1;have z3:=(hf3 3 _ rfl).2;have y4:=(hf3 4 _ rfl).1;have z4:=(hf3 4 _ rfl).2;obtain⟨HF6,HG3,HF3⟩:=h3 (((((hf3.set 0 (.int .i64 0)).set 1 (.slice none 0 0)).set 2 (.int .i64 0)).set 3 (.int .i64 0)).set 4 (.int .i64 0)) hg3 hf3;clear hf3 hg3 hb3 hft;rw[hw0];go_wp2_with fail;refine (in_any _ _ _ _).mono ?_;rintro e w4 ⟨rfl,hw4⟩;rw[hw4];clear hw4;have hdec:decide ((0:Int)<=F/\F<=100000)=true:=decide_eq_true hF;rw[hdec];clear hdec;obtain⟨fl,hfle⟩ : ∃fl,fl=fr.length:=⟨_,rfl⟩;have HFl:=hide hfle;rw[<-hfe2] at x1 ⊢;rw[<-hfle] at x1 hfl hr1 ⊢;have hne':((fl:Int) != (fl:Int))=false:=by simp
 clear hfle hfe2;go_wp2;go_loopw [9] (λj wr=>∃k:Nat,k<=fl/\j=.int .i64 (k:Int)/\(fr.take k).all frB=true/\wr=w3) (λj _=>fl-(RowKit.intOf j).toNat)
 case atStart=>exact⟨0,y_,rfl,rfl,rfl⟩
 case round=>
  obtain⟨k,hk,rfl,ha,hwr⟩:=hrel;rw[hwr];clear hwr;have HAl:=hide ha;clear ha;by_cases hlt:k<fl
  ·have hki:(k:Int)<(fl:Int):=by omega
   have hkl:k<fr.length:=by rw[<-HFl.o];exact hlt
   obtain⟨a',c',e',-,-,h3⟩:=HFr0;simp only[Value.slice.injEq] at e';obtain⟨rfl,-,rfl⟩:=e';obtain⟨b,off,rfl,hc⟩:=h3 o_;have hck:=(HB3.o.cell (p:=⟨b,_,none⟩) (b_ (hc k hkl))).trans (hc k hkl);obtain⟨x',hx⟩ : ∃x',x'=fr[k]:=⟨_,rfl⟩;rw[<-hx] at hck;have HX:=hide hx;clear hx hc h3;go_wp2_with fail;refine (in_any _ _ _ _).mono ?_;rintro e w4 ⟨rfl,hw4⟩;rw[hw4];clear hw4;by_cases hb:0<=x'/\x'<=1000000
   ·have hdec:decide ((0:Int)<=x'/\x'<=1000000)=true:=decide_eq_true hb;rw[hdec];have HTk:Hid ((fr.take (k+1)).all frB=true):=by show _=_;rw[List.take_succ_eq_append_getElem hkl,List.all_append,HAl.o];simp[<-HX.o,frB,hb]
    clear hdec hb;go_wp2;go_roundw
    case rel=>exact⟨k+1,by omega,by go_num,HTk,trivial⟩
    case measure=>simp[RowKit.intOf];omega
   ·exfalso
    have:=HGood.o
    rw[List.all_eq_true] at this;have h2:=this fr[k] (g_ hkl);rw[<-HX.o] at h2;simp only[frB,decide_eq_true_eq] at h2;exact hb h2
  ·have hki : ¬(k:Int)<(fl:Int):=by omega
   clear HF6 HAl;go_wp2_with fail;obtain⟨W4,hW4⟩ : ∃W4,W4=w3.alloc (.cells #[.slice ag t.globals.length cg,.slice af fl cf,.slice none 0 0,.slice none 0 0,.slice ai i.length ci,.slice none 0 0,.int .i64 F,.int .i64 0,.int .i64 0,.bool false,.int .i64 0,.slice ar fl cr,.int .i64 0,.int .i64 0] 61):=⟨_,rfl⟩;have hb4:Bl w3 W4:=by rw[hW4];exact r_.alloc n_ _
   have hz4:W4.heap.size=w3.heap.size+1:=by rw[hW4,World.size_alloc]
   have hbx:FrC W4 w3.heap.size [.slice ag t.globals.length cg,.slice af fl cf,.slice none 0 0,.slice none 0 0,.slice ai i.length ci,.slice none 0 0,.int .i64 F,.int .i64 0,.int .i64 0,.bool false,.int .i64 0,.slice ar fl cr,.int .i64 0,.int .i64 0]:=by
    rw[hW4];exact box_fr w3 _ _ (by show 14<=1000;omega)
   have hM1:M+1<w3.heap.size:=b_ y0;rw[<-hW4];clear hW4;obtain⟨P,hP⟩ : ∃P,P=w3.heap.size:=⟨_,rfl⟩;rw[<-hP] at hz4 hbx hM1 ⊢;obtain⟨HB4,HG4,HF4,HBx,HZ4⟩:=h5 (HB3.o.trans (hb4.mono HB3.o.size)) (HG3.o.below hb4) (HF3.o.below hb4) hbx hz4;have hwP:w.heap.size<=P:=by rw[hP];exact HB3.o.size
   clear hP hb4 hbx HG3 HF3 x0 x1 y0 y1 y2 y3 y4 z0 z1 z2 z3 z4 HB2 HFt2 Hfr2 HCk HFr HFt HB1 hz1 hz4;go_loopw [11] (λj wr=>∃(k:Nat) (gb:List Nat) (xa:Option Addr) (xc:Nat),k<=t.globals.length/\j=.int .i64 (k:Int)/\GI W4 P (t.globals.take k) wr (.slice xa k xc) gb/\FrC wr P [.slice ag t.globals.length cg,.slice af fl cf,.slice xa k xc,.slice none 0 0,.slice ai i.length ci,.slice none 0 0,.int .i64 F,.int .i64 0,.int .i64 0,.bool false,.int .i64 0,.slice ar fl cr,.int .i64 0,.int .i64 0]) (λj _=>t.globals.length-(RowKit.intOf j).toNat)
   case atStart=>exact⟨0,[],none,0,y_,rfl,GI.start,HBx⟩
   case round=>
    clear HBx;obtain⟨k2,gb,xa,xc,hk2,rfl,hGI,hbx⟩:=hrel;have hP4:P<W4.heap.size:=by rw[HZ4.o];omega
    have hM4:M+1<W4.heap.size:=by omega
    have hMP:M≠P:=by omega
    have hM1P:M+1≠P:=by omega
    obtain⟨HGI,HBw,HGw,HFw⟩:=h4 hGI hbx (HG4.o.tcs (by omega:M<W4.heap.size) hGI.tc hMP) (HF4.o.tcs hM4 hGI.tc hM1P);have hbw:Bl w wr:=hGI.tc.below HB4 HB4.o.size (λk hk=>by have e:k=P:=hk;omega);have HBW:=hide hbw;have hws:W4.heap.size<=wr.heap.size:=hGI.tc.size;have hgl0:t.globals.length<=50:=(tree_sz HCk0).1;clear hGI hbx;by_cases hlt:k2<t.globals.length
    ·have hki2:(k2:Int)<(t.globals.length:Int):=by omega
     obtain⟨a',c',e',-,-,h3⟩:=HGl;simp only[Value.slice.injEq] at e';obtain⟨rfl,-,rfl⟩:=e';obtain⟨bg,og,rfl,hc⟩:=h3 o_;obtain⟨c0,c1⟩:=hc k2 hlt;have hbg:bg<w.heap.size:=b_ c0;have q0:=(hbw.cell (p:=⟨bg,og+k2*2,none⟩) hbg).trans c0;have q1:=(hbw.cell (p:=⟨bg,og+k2*2+1,none⟩) hbg).trans c1;have hgs:=(tree_sz HCk0).2.2 _ (g_ hlt);have HTk:=hide (List.take_succ_eq_append_getElem hlt);have htl:(t.globals.take k2).length=k2:=by rw[List.length_take];omega
     obtain⟨gk,hgk⟩ : ∃gk,gk=t.globals[k2]:=⟨_,rfl⟩;rw[<-hgk] at c0 c1 q0 q1 hgs HTk;obtain⟨hn1,hn2,hn3⟩:=gln_or hgs;obtain⟨N,hN⟩ : ∃N,N=gln gk:=⟨_,rfl⟩;have HN:=hide hN;rw[<-hN] at hn1 hn2 hn3;have m0:=(HGw 0 _ rfl).1;have HTl:=hide htl;clear hc h3 hgk htl hN;go_upto_if 76 with fail
     go_cut [12] from 62 to 94 (λv W=>v=.int .i64 (N:Int)/\W=wr)
     case first=>
      by_cases hz:gk.size=0
      ·rw[if_pos hz] at hn1;go_wp2;go_meet
       case rel=>exact⟨by rw[hn1],rfl⟩
      ·rw[if_neg hz] at hn1;have hz':(gk.size == 0)=false:=by simpa using hz
       go_wp2;go_meet
       case rel=>exact⟨by rw[hn1],rfl⟩
     case rest=>
      obtain⟨rfl,hwc⟩:=hcut;rw[hwc];clear hwc hn1;go_upto_region 15 with fail;obtain⟨W5,hW5⟩ : ∃W5,W5=wr.drew:=⟨_,rfl⟩;have hb5:Bl wr W5:=by rw[hW5];exact r_.drew
      have hG5:GI W4 P (t.globals.take k2) W5 (.slice xa k2 xc) gb:=by rw[hW5];exact HGI.o.drew
      obtain⟨W6,hW6⟩ : ∃W6,W6=W5.alloc (.cells (Array.replicate N (.int .i64 0)) 2):=⟨_,rfl⟩;obtain⟨W7,hW7⟩ : ∃W7,W7=W6.alloc (.cells #[.string gk.name,.slice (some ⟨W5.heap.size,0,none⟩) N N] 65):=⟨_,rfl⟩;obtain⟨va,vn,vc,w8,r8,hG8,t8,hvn⟩:=glob_run (W:=W7) gk hG5 hP4 (by rw[<-HN.o];omega) (by rw[HTl.o];have:=(tree_sz HCk0.o).1;omega) (by rw[hW7,hW6,HN.o]);rw[HTl.o] at hvn;have hb6:Bl W5 W6:=by rw[hW6];exact r_.alloc n_ _
      have hb7:Bl W5 W7:=by rw[hW7];exact hb6.alloc hb6.size _
      have hz6:W6.heap.size=W5.heap.size+1:=by rw[hW6,World.size_alloc]
      have hw5:wr.heap.size<=W5.heap.size:=hb5.size;have hold : ∀X,Bl wr X->(X.cell? ⟨P,2,none⟩=some (.slice xa k2 xc)/\X.cell? ⟨M,0,none⟩=some (.slice (some ⟨bg,og,none⟩) t.globals.length cg)/\X.cell? ⟨bg,og+k2*2,none⟩=some (.string gk.name)):=λX hX=>⟨((HBw.o.below hX) 2 _ rfl).1,((HGw.o.below hX) 0 _ rfl).1,(hX.cell (p:=⟨bg,_,none⟩) (b_ q0)).trans q0⟩;obtain⟨HS5,HS6⟩:=h2 (hold W5 hb5) (hold W6 (hb5.trans (hb6.mono hw5)));have hS7:=hold W7 (hb5.trans (hb7.mono hw5));have HS7:=hide hS7;have hvb : ∀g,(Value.slice xa k2 xc).ownBlock=some g->W4.heap.size<=g:=λg hg=>(World.ownsRow.lt hG5.row g hg).1;have hz7:wr.heap.size<=W7.heap.size:=t_ hw5 hb7.size;have hn8 : ∀g,g<W4.heap.size->∀o,w8.cell? ⟨g,o,none⟩=W7.cell? ⟨g,o,none⟩:=λg hg o=>c_ (t8.block g o_ (λe=>by have:=hvb g e;omega));have hS8:w8.cell? ⟨P,2,none⟩=some (.slice xa k2 xc)/\w8.cell? ⟨M,0,none⟩=some (.slice (some ⟨bg,og,none⟩) t.globals.length cg)/\w8.cell? ⟨bg,og+k2*2,none⟩=some (.string gk.name):=⟨(hn8 P hP4 _).trans hS7.1,(hn8 M o_ _).trans hS7.2.1,(hn8 bg (by have:=HB4.o.size;omega) _).trans hS7.2.2⟩;have HS8:=hide hS8;have hfP:FrC w8 P _:=(HBw.o.below (hb5.trans (hb7.mono hw5))).tcs o_ t8 (λe=>by have:=hvb P e;omega);have x8:=(hfP 2 _ rfl).1;have f8:=(hfP 2 _ rfl).2;have HEnd:Hid (GI W4 P (t.globals.take (k2+1)) (w8.setCell ⟨P,2,none⟩ (.slice va (k2+1) vc)) (.slice va (k2+1) vc) (gb++[W5.heap.size])/\FrC (w8.setCell ⟨P,2,none⟩ (.slice va (k2+1) vc)) P [.slice (some ⟨bg,og,none⟩) t.globals.length cg,.slice af fl cf,.slice va (k2+1) vc,.slice none 0 0,.slice ai i.length ci,.slice none 0 0,.int .i64 F,.int .i64 0,.int .i64 0,.bool false,.int .i64 0,.slice ar fl cr,.int .i64 0,.int .i64 0]):=by
       rw[hvn] at hG8;exact⟨by rw[HTk.o];exact hG8,hfP.set 2 _⟩
      rw[hvn] at r8;obtain⟨Hr8,HW5,HW6,HW7,HZ6⟩:=h5 r8 hW5 hW6 hW7 hz6;obtain⟨kk,hkk⟩ : ∃kk,kk=k2+1:=⟨_,rfl⟩;rw[<-hkk] at Hr8 HEnd;have HKK:=hide hkk;have hNi:(0:Int)<=(N:Int):=by omega
      clear hkk hG8 r8 t8 hb5 hb6 hb7 hG5 hW6 hW7 hz6 hold hS7 hS8 hn8 hvb hvn hW5 c0 c1 q0 q1 hbw hfP m0;have HS:=HS5;refine wp_region_E 18 (λX=>X.cell? ⟨P,2,none⟩=some (.slice xa k2 xc)/\X.cell? ⟨M,0,none⟩=some (.slice (some ⟨bg,og,none⟩) t.globals.length cg)/\X.cell? ⟨bg,og+k2*2,none⟩=some (.string gk.name)) k_ ?_;rw[<-HW5.o];refine tk 0 [16,17,18] HS ?_;refine tk 1 [2,3,4,15,18] HS ?_;refine tk 2 [3,4,15,18] HS ?_;refine tk 3 [4,15,18] HS ?_;refine tk 4 [15,18] HS ?_;refine tk 5 [6,8,9,10,13,14,15,18] HS ?_;refine tk 6 [8,9,10,13,14,15,18] HS ?_;refine tk 7 [8,9,10,13,14,15,18] HS ?_;refine tk 8 [9,10,13,14,15,18] HS ?_;refine tk 9 [10,13,14,15,18] HS ?_;refine tk 10 [13,14,15,18] HS ?_;refine tk 11 [12,13,14,15,18] HS ?_;clear HS;have hmk:=mk_i64 N hn2 W5;refine wpAnyE_one (i:=12) k_ rfl (λK hK => ?_);go_simp;rw[<-HW6.o];refine hK.out _ _ (λ_=>HS6) ?_;clear hK K hmk;try simp only[Act.put,tA,tB,tC]
      have HS:=HS6;refine tk 13 [14,15,18] HS ?_;clear HS;refine wpAnyE_one (i:=14) k_ rfl (λK hK => ?_);go_simp;rw[<-HW7.o,HZ6.o];refine hK.out _ _ (λ_=>HS7) ?_;clear hK K;try simp only[Act.put,tA,tB,tC]
      refine wpAnyE_one (i:=15) k_ rfl (λK hK => ?_);refine step_appR rfl (.tmp 81) (.tmp 91) 59 rfl (.slice xa k2 xc) (.slice (some ⟨W5.heap.size+1,0,none⟩) 1 1) (.slice va kk vc) w8 rfl rfl Hr8 ?_;refine hK.out _ _ (λ_=>HS8) ?_;clear hK K;try simp only[Act.put,tA,tB,tC]
      have HS:=HS8;refine tk 16 [17,18] HS ?_;refine tk 17 [18] HS ?_;clear HS;refine wpAnyE_one (i:=18) k_ rfl (λK hK => ?_);go_simp;refine hK.out _ _ (λh=>absurd rfl h) ?_;clear hK K;refine wpAnyE_done k_ ?_ _;go_wp2;go_roundw
      case rel=>
       have:=HEnd.o
       rw[HKK.o] at this ⊢;exact⟨k2+1,_,va,vc,by omega,by go_num,this.1,this.2⟩
      case measure=>simp[RowKit.intOf];omega
    ·have hki2 : ¬(k2:Int)<(t.globals.length:Int):=by omega
     have hkk:k2=t.globals.length:=by omega
     have hGa:GI W4 P t.globals wr (.slice xa t.globals.length xc) gb:=by
      have:=HGI.o
      rw[hkk,List.take_length] at this;exact this
     have hBa:FrC wr P [.slice ag t.globals.length cg,.slice af fl cf,.slice xa t.globals.length xc,.slice none 0 0,.slice ai i.length ci,.slice none 0 0,.int .i64 F,.int .i64 0,.int .i64 0,.bool false,.int .i64 0,.slice ar fl cr,.int .i64 0,.int .i64 0]:=by
      have:=HBw.o
      rw[hkk] at this;exact this
     have hflE:fl=t.funcs.length:=HFl.o.trans HFe;have hFn:Funcs w (.slice af fl cf) t.funcs:=by rw[hflE];exact HFn
     have hFr1:InN w (.slice ar fl cr) fr:=by rw[HFl.o];exact HFr0
     have hgz:=(tree_sz HCk0).2.2;have hibs : ∀x∈i,inB x:=λx hx=>by
      have:=List.all_eq_true.1 HW0.o x hx
      simpa[inBb,inB] using this
     obtain⟨bG,hga,hRS⟩:=rs_start (d:=M) (fr:=fr) HB4 hGa ⟨hwP,hP4⟩ ⟨by have:=HM.o;omega,by omega,hMP⟩ hBa HI hibs hF (λg hg=>⟨(hgz g hg).1,by have:=(hgz g hg).2;omega⟩);obtain⟨C,hCe⟩ : ∃C:RC,C=⟨w,t,fr,.slice ag t.globals.length cg,.slice af fl cf,.slice ar fl cr,P,bG,xa,xc,gb,F⟩:=⟨_,rfl⟩;have hC:C.Ok:=by
      rw[hCe];refine⟨HGl,hFn,hFr1,HCk0,HFe,λx hx => ?_,hGa.ll,hF,⟨by show t.globals.length<=_;omega,by show t.funcs.length<=_;have:=(tree_sz HCk0.o).2.1;omega⟩,hga⟩;have:=List.all_eq_true.1 HGood.o x hx
      simp only[frB,decide_eq_true_eq] at this;exact⟨this.1,by omega⟩
     have hRC:RS C wr 0 false 0 [] (.slice none 0 0) (.slice ai i.length ci) (.slice none 0 0) (s00 t i F):=by rw[hCe];exact hRS
     have hCt:C.t=t:=by rw[hCe]
     have hCf:C.fr=fr:=by rw[hCe]
     have hCP:C.P=P:=by rw[hCe]
     have hCw:C.w0=w:=by rw[hCe]
     have hCF:C.F=F:=by rw[hCe]
     have hml:m<t.funcs.length:=fnum_lt hm;have HCall:Hid (∀X:World,RS C X 0 false 0 [] (.slice none 0 0) (.slice ai i.length ci) (.slice none 0 0) (s00 t i F)->∀(b:Nat),w.heap.size<=b->b∉C.K []->X.ownsRow b 2 1 (.slice (some ⟨b,0,none⟩) 0 0) 0 []->Calls prog 31 #[.pointer (some ⟨P,0,none⟩),.int .i64 (m:Int),.slice (some ⟨b,0,none⟩) 0 0] X λx w'=>ExP C X [] (.slice none 0 0) (.slice none 0 0) r s' x w'):=λX hX b hb1 hb2 hr=>by
      have:=(all_ev C hC n).2.1 m [] (s00 t i F) r s' (by rw[hCt,hCf];exact hEv) (by rw[hCt];exact⟨List.nodup_nil,λx hx=>by cases hx⟩) (by rw[hCt];exact main_par HCk0.o hm) (λx hx=>by cases hx) (by show (0:Int)+1000000000*(((F.toNat:Nat):Int)+1)<=_;omega) X 0 [] (.slice none 0 0) (.slice ai i.length ci) (.slice none 0 0) (.slice (some ⟨b,0,none⟩) 0 0) b hX ⟨hr,λk hk=>by
       have e:b=k:=by simpa[Value.ownBlock] using hk
       subst e;exact⟨by rw[hCw];exact hb1,hb2,(λh=>by cases h),(λh=>by cases h)⟩⟩
      rw[hCP] at this;exact this
     have hend:=call_end hEv;obtain⟨HEnd,HRC,HFn'⟩:=h3 hend hRC (hFn.below HBW);have m0:=(HGw 0 _ rfl).1;have m1:=(HGw 1 _ rfl).1;have hfi:fnumI t.funcs mainS=(m:Int):=fnumI_some hm;rw[<-hflE] at m1;have hKK : ∀b,wr.heap.size<=b->b∉C.K []:=λb hb hm=>by have:=(HRC.o.rng b hm).2;omega
     obtain⟨HKk,HFi,Hml⟩:=h3 hKK hfi hml;have HGb:Hid (∀b∈gb,W4.heap.size<=b):=λb hb=>(hGa.rng b hb).1;have HGbe:Hid (C.gb=gb):=by show _=_;rw[hCe]
     clear hflE hGa hBa hFn hFr1 hgz hibs hRS hCe hC hRC hend hm hEv hga hkk hKK hfi HGI HBw hbw HG4 HF4;have hfs1:t.funcs.length<=1048576:=hfs;go_wp2_with fail;refine (l3func_any t.funcs _ _ mainS wr hfs1 HFn').mono ?_;rintro e w9 ⟨rfl,hb9⟩;rw[HFi.o];obtain⟨W10,hW10⟩ : ∃W10,W10=w9.alloc (.cells #[] 2):=⟨_,rfl⟩;have hb10:Bl w9 W10:=by rw[hW10];exact r_.alloc n_ _
     have hrow:W10.ownsRow w9.heap.size 2 1 (.slice (some ⟨w9.heap.size,0,none⟩) 0 0) 0 []:=by rw[hW10];exact World.ownsRow_lit w9 #[] 0 n_ (by decide) rfl
     obtain⟨Hc,HF10,HW10⟩:=h3 (HCall W10 ((HRC.o.below hb9).below hb10) w9.heap.size (by have:=HBW.o.size;have:=hb9.size;omega) (HKk _ hb9.size) hrow) ((HFw.o.below hb9).below hb10) hW10;have hs10:W4.heap.size<=W10.heap.size:=by have:=hb9.size;have:=hb10.size;omega
     clear hb9 hb10 hrow hW10 HCall HRC HKk HFn' m0 m1 HFw;go_wp2_with fail;rw[<-HW10.o];refine Hc.o.mono ?_;rintro xx w11 ⟨z,vI',vO',vl',rfl,hz,hRS',hT11,hown11⟩;have hbP:FrC w11 P _:=hCP ▸ hRS'.box;obtain⟨oa,oc,hoa,-⟩:=own_shapeU hRS'.out;have hf11:FrC w11 (M+1) [.int .i64 0,.slice none 0 0,.int .i64 0,.int .i64 0,.int .i64 0]:=HF10.o.tcs o_ hT11 (λe=>by
      rcases e with e|e|e
      ·exact hM1P (e.trans hCP)
      ·rw[HGbe.o] at e;have:=HGb.o _ e
       omega
      ·cases e)
     have HOut:=hide hRS'.out;have hbel:Bl w w11:=by have:=hRS'.bel;rw[hCw] at this;exact this
     have HBel:=hide hbel;have hpm:P<w11.heap.size/\M+1<w11.heap.size:=⟨b_ (hbP 0 _ rfl).1,b_ (hf11 0 _ rfl).1⟩;rw[hCF] at hbP;subst hoa;rw[hCw] at HOut;obtain⟨us,hus⟩ : ∃us,us=F-(s'.u:Int):=⟨_,rfl⟩;rw[<-hus] at hbP;obtain⟨HUs,HZ,HF11,HOwn⟩:=h4 hus hz hf11 hown11;clear hus hz hRS' hT11 hown11 hf11 Hc HF10 HW10 hbel;obtain⟨W12,hW12⟩ : ∃W12,W12=w11.drew:=⟨_,rfl⟩;have hb12:Bl w11 W12:=by rw[hW12];exact r_.drew
     have hz12:w11.heap.size<=W12.heap.size:=hb12.size;obtain⟨W13,hW13⟩ : ∃W13,W13=W12.alloc (.cells #[.int .i64 0,.slice none 0 0,.int .i64 0,.int .i64 0,.int .i64 0] 29):=⟨_,rfl⟩;have hb13:Bl W12 W13:=by rw[hW13];exact r_.alloc n_ _
     have hq13:FrC W13 W12.heap.size [.int .i64 0,.slice none 0 0,.int .i64 0,.int .i64 0,.int .i64 0]:=by rw[hW13];exact box_fr W12 _ _ (by decide)
     have HS12:Hid (W12.cell? ⟨P,8,none⟩=some (.int .i64 (stR r))/\W12.cell? ⟨P,5,none⟩=some (.slice oa s'.o.length oc)/\W12.cell? ⟨P,7,none⟩=some (.int .i64 us)/\W12.cell? ⟨P,13,none⟩=some (.int .i64 s'.d)):=⟨((hbP.below hb12) 8 _ rfl).1,((hbP.below hb12) 5 _ rfl).1,((hbP.below hb12) 7 _ rfl).1,((hbP.below hb12) 13 _ rfl).1⟩;have hbP13:=(hbP.below hb12).below hb13;have HS13:Hid (W13.cell? ⟨P,8,none⟩=some (.int .i64 (stR r))/\W13.cell? ⟨P,5,none⟩=some (.slice oa s'.o.length oc)/\W13.cell? ⟨P,7,none⟩=some (.int .i64 us)/\W13.cell? ⟨P,13,none⟩=some (.int .i64 s'.d)):=⟨(hbP13 8 _ rfl).1,(hbP13 5 _ rfl).1,(hbP13 7 _ rfl).1,(hbP13 13 _ rfl).1⟩;obtain⟨HW12,HW13⟩:=h2 hW12 hW13;obtain⟨Q,hQ⟩ : ∃Q,Q=W12.heap.size:=⟨_,rfl⟩;rw[<-hQ] at hq13;obtain⟨HF13,HB13⟩:=h2 ((HF11.o.below hb12).below hb13) (HBel.o.trans ((hb12.trans (hb13.mono hb12.size)).mono HBel.o.size));have hO13:W13.ownsRow w.heap.size 2 1 (.slice oa s'.o.length oc) s'.o.length (s'.o.map (Value.int .i64)):=ownB (ownB HOut hb12) hb13;have HO13:=hide hO13;have hQP:P≠Q/\M+1≠Q/\w.heap.size<=Q/\Q<W13.heap.size:=⟨by omega,by omega,by have:=HBel.o.size;omega,b_ (hq13 0 _ rfl).1⟩;obtain⟨hQ1,hQ2,hQ3,hQ4⟩:=hQP;obtain⟨HQ,HQ13⟩:=h2 hQ hq13;have HOb:Hid (oa=none∨∃g,oa=some ⟨g,0,none⟩/\g≠Q/\g≠M+1):=by
      show _∨_;rcases HOut.o.2 with ⟨e,-⟩|⟨g,cap,cur,e,-⟩
      ·simp only[Value.slice.injEq] at e;exact .inl e.1
      ·simp only[Value.slice.injEq] at e;refine .inr ⟨g,e.1,?_,?_⟩
       ·have:=(World.ownsRow.lt HOut.o g (by rw[e.1];rfl)).2
        omega
       ·have:=HOwn.o g (by rw[e.1];rfl)
        rcases this with h|h
        ·cases h
        ·omega
     clear hW12 hW13 hbP hbP13 hq13 hb12 hb13 hQ hO13;go_upto_region 17 with fail;have HS:=HS12;refine wp_region_E 18 (λX=>X.cell? ⟨P,8,none⟩=some (.int .i64 (stR r))/\X.cell? ⟨P,5,none⟩=some (.slice oa s'.o.length oc)/\X.cell? ⟨P,7,none⟩=some (.int .i64 us)/\X.cell? ⟨P,13,none⟩=some (.int .i64 s'.d)) k_ ?_;rw[<-HW12.o];refine tk 0 [1,2,3,16,18] HS ?_;refine tk 1 [2,3,16,18] HS ?_;refine tk 2 [3,16,18] HS ?_;refine tk 3 [16,18] HS ?_;refine tk 4 [5,6,7,16,18] HS ?_;refine tk 5 [6,7,16,18] HS ?_;refine tk 6 [7,16,18] HS ?_;refine tk 7 [16,18] HS ?_;refine tk 8 [9,10,11,16,18] HS ?_;refine tk 9 [10,11,16,18] HS ?_;refine tk 10 [11,16,18] HS ?_;refine tk 11 [16,18] HS ?_;refine tk 12 [13,14,15,16,18] HS ?_;refine tk 13 [14,15,16,18] HS ?_;refine tk 14 [15,16,18] HS ?_;refine tk 15 [16,18] HS ?_;refine tk 16 [18] HS ?_;clear HS;refine wpAnyE_one (i:=17) k_ rfl (λK hK => ?_);go_simp;rw[<-HW13.o,<-HQ.o];refine hK.out _ _ (λ_=>HS13) ?_;clear hK K;try simp only[Act.put,tA,tB,tC]
     have q0:=(HQ13 0 _ rfl).1;have f0:=(HQ13 0 _ rfl).2;have q1:=(HQ13 1 _ rfl).1;have f1:=(HQ13 1 _ rfl).2;have q2:=(HQ13 2 _ rfl).1;have f2:=(HQ13 2 _ rfl).2;have q3:=(HQ13 3 _ rfl).1;have f3:=(HQ13 3 _ rfl).2;have q4:=(HQ13 4 _ rfl).1;have f4:=(HQ13 4 _ rfl).2;refine wpAnyE_one (i:=18) k_ rfl (λK hK => ?_);go_simp;obtain⟨W14,hW14⟩ : ∃W14,W14=((((W13.setCell ⟨Q,0,none⟩ (.int .i64 (stR r))).setCell ⟨Q,1,none⟩ (.slice oa s'.o.length oc)).setCell ⟨Q,2,none⟩ (.int .i64 0)).setCell ⟨Q,3,none⟩ (.int .i64 us)).setCell ⟨Q,4,none⟩ (.int .i64 s'.d):=⟨_,rfl⟩;have hT14:Tcs (λk=>k=Q) W13 W14:=by
      rw[hW14];exact (((((Tcs.refl (λk=>k=Q) W13).setCell (p:=⟨Q,0,none⟩) rfl _).setCell (p:=⟨Q,1,none⟩) rfl _).setCell (p:=⟨Q,2,none⟩) rfl _).setCell (p:=⟨Q,3,none⟩) rfl _).setCell (p:=⟨Q,4,none⟩) rfl _
     have hq14:FrC W14 Q [.int .i64 (stR r),.slice oa s'.o.length oc,.int .i64 0,.int .i64 us,.int .i64 s'.d]:=by
      rw[hW14];exact ((((HQ13.o.set 0 _).set 1 _).set 2 _).set 3 _).set 4 _
     have hf14:FrC W14 (M+1) [.int .i64 0,.slice none 0 0,.int .i64 0,.int .i64 0,.int .i64 0]:=HF13.o.tcs (b_ (HF13 0 _ rfl).1) hT14 hQ2;have p8:W14.cell? ⟨P,8,none⟩=some (.int .i64 (stR r)):=(c_ (a:=⟨P,8,none⟩) (hT14.block P (b_ HS13.o.1) hQ1)).trans HS13.o.1;rw[<-hW14];refine hK.out _ _ (λh=>absurd rfl h) ?_;clear hK K;refine wpAnyE_done k_ ?_ _;have HFin:Hid (∀X,Tcs (λk=>k=Q∨k=M+1) W14 X->X.ownsRow w.heap.size 2 1 (.slice oa s'.o.length oc) s'.o.length (s'.o.map (Value.int .i64))/\Bl w X):=λX hX=>by
      have hT:Tcs (λk=>k=Q∨k=M+1) W13 X:=(hT14.mono λk hk=>.inl hk).trans hX;refine⟨own_notU HO13 hT (λk hk hs => ?_),hT.below HB13 HB13.o.size (λk hk=>by have:=HM.o;rcases hk with h|h <;> omega)⟩;rcases HOb.o with h|⟨g,h,h1,h2⟩
      ·rw[h] at hk;cases hk
      ·rw[h] at hk;have e:g=k:=by simpa[Value.ownBlock] using hk
       subst e;exact hs.elim h1 h2
     obtain⟨HQ14,HF14⟩:=h2 hq14 hf14;clear hW14 hT14 q0 q1 q2 q3 q4 f0 f1 f2 f3 f4 HS13 HQ13 HF13 HO13;rcases HEnd.o with ⟨v,hr⟩|⟨c,hr,hc⟩
     ·have hst:stR r=0:=by rw[hr];rfl
      have hse:stE r=1:=by rw[hr];rfl
      have hve:valR r=z:=by rw[hr];exact (HZ v hr).symm
      rw[hst] at hq14 p8 HQ14;obtain⟨Hse,Hve⟩:=h2 hse hve;clear hse hve hst;have a0:=(hq14 0 _ rfl).1;have f0:=(hq14 0 _ rfl).2;have a1:=(hq14 1 _ rfl).1;have a2:=(hq14 2 _ rfl).1;have f2:=(hq14 2 _ rfl).2;have a3:=(hq14 3 _ rfl).1;have a4:=(hq14 4 _ rfl).1;have b0:=(hf14 0 _ rfl).1;have c0:=(hf14 0 _ rfl).2;have b1:=(hf14 1 _ rfl).1;have c1:=(hf14 1 _ rfl).2;have b2:=(hf14 2 _ rfl).1;have c2:=(hf14 2 _ rfl).2;have b3:=(hf14 3 _ rfl).1;have c3:=(hf14 3 _ rfl).2;have b4:=(hf14 4 _ rfl).1;have c4:=(hf14 4 _ rfl).2;have hQ2' : ¬Q=M+1:=λe=>hQ2 e.symm;clear hq14 hf14;go_wp2_with fail;have hF1:FrC ((W14.setCell ⟨Q,0,none⟩ (.int .i64 1)).setCell ⟨Q,2,none⟩ (.int .i64 z)) (M+1) [.int .i64 0,.slice none 0 0,.int .i64 0,.int .i64 0,.int .i64 0]:=HF14.o.tcs (b_ b0) ((((Tcs.refl (λk=>k=Q) W14)).setCell (p:=⟨Q,0,none⟩) rfl _).setCell (p:=⟨Q,2,none⟩) rfl _) hQ2;have hF2:=((((hF1.set 0 (.int .i64 1)).set 1 (.slice oa s'.o.length oc)).set 2 (.int .i64 z)).set 3 (.int .i64 us)).set 4 (.int .i64 s'.d);have t0:=(hF2 0 _ rfl).1;have t1:=(hF2 1 _ rfl).1;have t2:=(hF2 2 _ rfl).1;have t3:=(hF2 3 _ rfl).1;have t4:=(hF2 4 _ rfl).1;refine bodyPost_ret (v:=.agg #[.int .i64 1,.slice oa s'.o.length oc,.int .i64 z,.int .i64 us,.int .i64 s'.d]) (by simp[results,results7,go_sem,t0,t1,t2,t3,t4]) rfl ?_;have hX:=HFin _ ((((((((Tcs.refl (λk=>k=Q∨k=M+1) W14)).setCell (p:=⟨Q,0,none⟩) (.inl rfl) (.int .i64 1)).setCell (p:=⟨Q,2,none⟩) (.inl rfl) (.int .i64 z)).setCell (p:=⟨M+1,0,none⟩) (.inr rfl) (.int .i64 1)).setCell (p:=⟨M+1,1,none⟩) (.inr rfl) (.slice oa s'.o.length oc)).setCell (p:=⟨M+1,2,none⟩) (.inr rfl) (.int .i64 z)).setCell (p:=⟨M+1,3,none⟩) (.inr rfl) (.int .i64 us) |>.setCell (p:=⟨M+1,4,none⟩) (.inr rfl) (.int .i64 s'.d));exact⟨_,by rw[Hse.o,Hve.o,<-HUs.o],hX.1,hX.2⟩
     ·have hst:stR r=c:=by rw[hr];rfl
      have hse:stE r=c:=by rw[hr];rfl
      have hve:valR r=0:=by rw[hr];rfl
      rw[hst] at hq14 p8 HQ14;obtain⟨Hse,Hve⟩:=h2 hse hve;have hc':(c == 0)=false:=by simpa using hc
      clear hse hve hst;have a0:=(hq14 0 _ rfl).1;have a1:=(hq14 1 _ rfl).1;have a2:=(hq14 2 _ rfl).1;have a3:=(hq14 3 _ rfl).1;have a4:=(hq14 4 _ rfl).1;have b0:=(hf14 0 _ rfl).1;have c0:=(hf14 0 _ rfl).2;have b1:=(hf14 1 _ rfl).1;have c1:=(hf14 1 _ rfl).2;have b2:=(hf14 2 _ rfl).1;have c2:=(hf14 2 _ rfl).2;have b3:=(hf14 3 _ rfl).1;have c3:=(hf14 3 _ rfl).2;have b4:=(hf14 4 _ rfl).1;have c4:=(hf14 4 _ rfl).2;have hQ2' : ¬Q=M+1:=λe=>hQ2 e.symm;clear hq14 hf14;go_wp2_with fail;have hF2:=((((HF14.o.set 0 (.int .i64 c)).set 1 (.slice oa s'.o.length oc)).set 2 (.int .i64 0)).set 3 (.int .i64 us)).set 4 (.int .i64 s'.d);have t0:=(hF2 0 _ rfl).1;have t1:=(hF2 1 _ rfl).1;have t2:=(hF2 2 _ rfl).1;have t3:=(hF2 3 _ rfl).1;have t4:=(hF2 4 _ rfl).1;refine bodyPost_ret (v:=.agg #[.int .i64 c,.slice oa s'.o.length oc,.int .i64 0,.int .i64 us,.int .i64 s'.d]) (by simp[results,results7,go_sem,t0,t1,t2,t3,t4]) rfl ?_;have hX:=HFin _ ((((((Tcs.refl (λk=>k=Q∨k=M+1) W14)).setCell (p:=⟨M+1,0,none⟩) (.inr rfl) (.int .i64 c)).setCell (p:=⟨M+1,1,none⟩) (.inr rfl) (.slice oa s'.o.length oc)).setCell (p:=⟨M+1,2,none⟩) (.inr rfl) (.int .i64 0)).setCell (p:=⟨M+1,3,none⟩) (.inr rfl) (.int .i64 us) |>.setCell (p:=⟨M+1,4,none⟩) (.inr rfl) (.int .i64 s'.d));exact⟨_,by rw[Hse.o,Hve.o,<-HUs.o],hX.1,hX.2⟩
end Go.Proofs.YtffnkkpmlplfeaaGreatDoor
