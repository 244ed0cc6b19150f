import Derived.Test.YtffnkkpmlplfeaaGreatDoorN40
import Derived.Deep.LoopGhost
import Derived.Test.YtffnkkpmlplfeaaGreatDoorN29
namespace Go.Proofs.YtffnkkpmlplfeaaGreatDoor
open Go.Proofs.Tryz
open Go.RowKit
set_option linter.all false
set_option maxRecDepth 100000
set_option maxHeartbeats 16000000
variable[Inhabited Pick]
section
variable {w w':World} {v:Value} {row:Option Nat} {B:Nat} {l:List Nat}
theorem l3has_any (l:List Nat) (v:Value) (x:Nat) (w:World) (hl:l.length<=10000000) (hx:Ints w v (l.map (λg:Nat=>(g:Int)))) :
  Calls prog 58 #[v,.int .i64 (x:Int)] w λe w'=>e=.returned (.bool (decide (x∈l)))/\Below w.heap.size w w':=by
 obtain⟨a,c,rfl,hc⟩:=hx;rw[List.length_map] at *;have HC:Hid (0<l.length->∃b,a=some ⟨b,0,none⟩/\∀j (h:j<l.length),w.cell? ⟨b,j,none⟩=some (.int .i64 (l[j]:Int))):=λh0=>by
  obtain⟨b,rfl,hq⟩:=hc (by simpa using h0);refine⟨b,rfl,λj hj => ?_⟩;rw[hq j (by simpa using hj)];simp
 clear hc;go_enter func58,ntmps58;go_wp2;go_loopw [5] (λi wr=>∃k:Nat,k<=l.length/\i=.int .i64 k/\(∀j (hj:j<l.length),j<k->l[j]≠x)/\Bl w wr) (λi _=>l.length-(RowKit.intOf i).toNat)
 case atStart=>exact⟨0,y_,rfl,λj hj h=>absurd h (Nat.not_lt_zero _),r_⟩
 case round=>
  obtain⟨k,hk,rfl,hn,hB⟩:=hrel;have HN:=hide hn;clear hn;by_cases hlt:k<l.length
  ·obtain⟨b,rfl,hc⟩:=HC.o o_;have d0:=(hB.cell (p:=⟨b,k,none⟩) (b_ (hc k hlt))).trans (hc k hlt);by_cases hs:l[k]=x
   ·have HR:Hid (decide (x∈l)=true):=by show _=_;rw[decide_eq_true_iff,<-hs];exact g_ hlt
    rw[hs] at d0;clear hc hs;go_wp2;go_ret;exact⟨ret_bool HR.o.symm,hB⟩
   ·have HS:Hid (∀j (hj:j<l.length),j<k+1->l[j]≠x):=λj hj h=>by
     by_cases e:j=k
     ·subst e;exact hs
     ·exact HN.o j hj o_
    have b1:((l[k]:Int) == (x:Int))=false:=by
     have : ¬(l[k]:Int)=(x:Int):=by omega
     simpa using this
    clear hc;generalize l[k]=y at d0 b1 hs;go_wp2;go_roundw
    case rel=>exact⟨k+1,by omega,by go_num,HS,hB⟩
    case measure=>simp[RowKit.intOf];omega
  ·have HR:Hid (decide (x∈l)=false):=by
    show _=_;rw[decide_eq_false_iff_not];intro hm;obtain⟨j,hj,he⟩:=List.getElem_of_mem hm;exact HN.o j hj o_ he
   go_wp2;go_ret;exact⟨ret_bool HR.o.symm,hB⟩
theorem Ints.grown {l:List Int} (h:Ints w v l) (hg:w.grownBy w' row) (hne : ∀g,v.ownBlock=some g->row≠some g):Ints w' v l:=by
 obtain⟨a,cap,rfl,h3⟩:=h;refine⟨a,cap,rfl,λh0 => ?_⟩;obtain⟨b,rfl,hc⟩:=h3 h0;refine⟨b,rfl,λj hj => ?_⟩;have hlt:=b_ (hc j hj);exact (c_ (a:=⟨b,j,none⟩) (hg.block b hlt (λe=>hne b rfl e.symm))).trans (hc j hj)
theorem IRow.grown (h:IRow B w v l) (hg:w.grownBy w' row) (hne : ∀g,v.ownBlock=some g->row≠some g):IRow B w' v l:=ownG h hg hne
theorem IRow.cap (h:IRow B w v l) : ∀a n c,v=.slice a n c->n<=c:=by
 intro a n c he;rcases h.2 with ⟨rfl,hz⟩|⟨g,cap,cur,rfl,_,_,h1,_⟩
 ·simp only[Value.slice.injEq] at he;omega
 ·simp only[Value.slice.injEq] at he;omega
theorem tail_run (b n c:Nat) (h1:1<=n) (h3:n<=c) : ∃ad:Addr,(∀w:World,(Instr.slice 26 (.slice (some ⟨b,0,none⟩) n c) (some (.int .i64 1)) none none).run prog w=.ok (.slice (some ad) (n-1) (c-1)) w)/\(∀j,j<n-1->ad.add j=⟨b,j+1,none⟩):=by
 by_cases hc:c=1
 ·refine⟨⟨b,0,none⟩,λw => ?_,λj hj=>by omega⟩;have hz:prog.elem 26=2:=by kernel_rfl
  have hs:(sizeOf 2).run prog w=.ok 1 w:=by kernel_rfl
  rw[run_slice_l w 26 (some ⟨b,0,none⟩) n c (by rw[hz];exact underlying26) .i64 _ o_ o_,hz,hs];simp[Result.andThen,sliced,hc]
 ·refine⟨⟨b,1,none⟩,λw => ?_,λj hj => ?_⟩
  ·have hz:prog.elem 26=2:=by kernel_rfl
   have hs:(sizeOf 2).run prog w=.ok 1 w:=by kernel_rfl
   rw[run_slice_l w 26 (some ⟨b,0,none⟩) n c (by rw[hz];exact underlying26) .i64 _ o_ o_,hz,hs];simp[Result.andThen,sliced,hc,Addr.add]
  ·rw[addrO];simp[Nat.add_comm]
theorem l3reach_any (t:Tr) (vg vf vfr:Value) (f:Nat) (w:World) (hf:f<t.funcs.length) (hl:t.funcs.length<=1000) (hsm : ∀g∈t.funcs,smallF g) (hg : ∃a n c,vg=.slice a n c) (hfu:Funcs w vf t.funcs) (hfr:Ints w vfr [(f:Int)]) (hcap : ∀a n c,vfr=.slice a n c->n<=c) :
    Calls prog 57 #[.agg #[vg,vf],vfr] w λe w'=>∃v out,e=.returned v/\IRow w.heap.size w' v out/\(∀g,g∈out↔Rch t f g)/\out.length<=1000/\Below w.heap.size w w':=by
  obtain⟨ag,ng,cg,rfl⟩:=hg;have HFu:Hid (Funcs w vf t.funcs):=hfu;obtain⟨af,cf,rfl,-⟩:=hfu;have HSm:Hid (∀g∈t.funcs,smallF g):=hsm;have HCp:Hid (∀a n c,vfr=.slice a n c->n<=c):=hcap;have HFr:Hid (Ints w vfr [(f:Int)]):=hfr;obtain⟨afr,cfr,rfl,hfc⟩:=hfr;obtain⟨bf,rfl,hfd⟩:=hfc (by simp);have hbf:bf<w.heap.size:=b_ (hfd 0 (by simp));obtain⟨i1,hj,hy0,hy1,hy2⟩:=info_parts info_i64;obtain⟨n,hn⟩ : ∃n,n=t.funcs.length:=⟨_,rfl⟩;have HN:Hid (n=t.funcs.length):=hn;rw[<-hn] at HFu hf hl ⊢;clear hn hsm hcap hfc hfd;go_enter func57,ntmps57;go_wp2_with fail;have HI0:Hid (IRow (w.heap.size+1) ((w.alloc (.cells #[.slice ag ng cg,.slice af n cf] 34)).alloc (.cells #[] 2)) (.slice (some ⟨w.heap.size+1,0,none⟩) 0 0) []):=by
    have:=irow_lit (w.alloc (.cells #[.slice ag ng cg,.slice af n cf] 34)) (w.heap.size+1) (by simp)
    rw[World.size_alloc] at this;exact this
  have hB0:Below (w.heap.size+1) (w.alloc (.cells #[.slice ag ng cg,.slice af n cf] 34)) ((w.alloc (.cells #[.slice ag ng cg,.slice af n cf] 34)).alloc (.cells #[] 2)):=r_.alloc (by simp) _;go_loopg [5,6] (n+1) (λgk ov wv wr=>∃(out work:List Nat),gk=(n-out.length)+work.length/\gk<=n+1/\RInv t f out work/\IRow (w.heap.size+1) wr ov out/\Ints wr wv (work.map (λg:Nat=>(g:Int)))/\(∀a n c,wv=.slice a n c->n<=c)/\(∀g,wv.ownBlock=some g->ov.ownBlock≠some g)/\Below (w.heap.size+1) (w.alloc (.cells #[.slice ag ng cg,.slice af n cf] 34)) wr)
  case atStart=>exact⟨[],[f],by simp,n_,RInv.start t f,HI0,HFr.o.below (one_below hB0),HCp,λg hg=>by simp only[Value.ownBlock,Option.some.injEq] at hg;simp only[Value.ownBlock,ne_eq,Option.some.injEq];omega,hB0⟩
  case round=>
    clear HI0 hB0 HFr HCp hbf;obtain⟨out,work,hgk,hgn,hI,hO,hW,hcp,hne,hB⟩:=hrel;have hBw:=one_below hB;obtain⟨x0,x1⟩:=box2 hB;have hT0:w.heap.size+1<=wr.heap.size:=by have:=hB.size;simpa using this
    obtain⟨a5,c5,rfl⟩:=hO.shape;have HO:Hid (IRow (w.heap.size+1) wr (.slice a5 out.length c5) out):=hO;have hol:=hI.len;rw[<-HN.o] at hol;cases work with
    | nil=>
      have HE:Hid (∀g,g∈out↔Rch t f g):=λg=>hI.all g;obtain⟨a6,c6,rfl,-⟩:=hW;simp only[List.map_nil,l_n];clear hI hO hcp hne x0 x1;go_wp2;go_ret;exact⟨_,out,rfl,IRow.base HO.o o_,HE,by omega,hBw⟩
    | cons x rest=>
      have hxn:x<n:=by have:=hI.lt (by rw[<-HN.o];exact hf) x (by simp);rw[HN.o];exact this
      have HM:Hid (RMid t f x [] out rest):=hI.take (by simp) (λy=>by simp);obtain⟨a6,c6,rfl,hwc⟩:=hW;simp only[List.map_cons,l_c,List.length_map] at hwc hcp hne hgk ⊢;obtain⟨b6,rfl,hwd⟩:=hwc o_;have q6:wr.cell? ⟨b6,0,none⟩=some (.int .i64 (x:Int)):=by have:=hwd 0 (by simp);simpa using this
      have hb6:b6<wr.heap.size:=b_ q6;have hc6:rest.length+1<=c6:=hcp _ _ _ rfl;have HWC:Hid (∀j,j<rest.length->∀(h:j<rest.length),wr.cell? ⟨b6,j+1,none⟩=some (.int .i64 (rest[j]:Int))):=λj hj h=>by
        have:=hwd (j+1) o_
        simpa using this
      have hrl:rest.length<=2000:=by omega
      obtain⟨ad,hsl,had⟩:=tail_run b6 (rest.length+1) c6 o_ hc6;simp only[Nat.add_sub_cancel] at hsl had;have HAd:Hid (∀j,j<rest.length->ad.add j=⟨b6,j+1,none⟩):=had;have hxl:x<t.funcs.length:=by rw[<-HN.o];exact hxn
      have hdr:Bl wr wr.drew:=r_.drew;have HCl:Hid (Calls prog 92 #[.agg #[.slice ag ng cg,.slice af n cf],.int .i64 (x:Int)] wr.drew λe w'=>∃v,e=.returned v/\IRow wr.drew.heap.size w' v (callsL t.funcs t.funcs[x].body)/\Bl wr.drew w'):=l3calls_row t.funcs _ _ x wr.drew hxl (by rw[<-HN.o];omega) (HSm.o _ (g_ hxl)) ⟨_,_,_,rfl⟩ (HFu.o.below (hBw.drew));obtain⟨L,hL⟩ : ∃L,L=callsL t.funcs t.funcs[x].body:=⟨_,rfl⟩;rw[<-hL] at HCl;have HL:Hid (∀y,CallR t x y↔y∈L):=λy=>by rw[hL];exact CallR.mem hxl
      have hLn:L.length<=1000:=by
        have h1:L.Nodup:=by
          rw[hL];unfold callsL;exact List.Pairwise.filter _ (List.nodup_range)
        have h2:=nodup_le n h1 (λy hy=>by have:=((HL.o y).2 hy).lt;rw[HN.o];exact this);omega
      have hq0:w.heap.size<wr.heap.size:=by omega
      clear hI hO hwc hwd had hL hcp hne;go_wp2_with fail;go_region_held3 (λW=>W.cell? ⟨w.heap.size,0,none⟩=some (.slice ag ng cg)/\W.cell? ⟨w.heap.size,1,none⟩=some (.slice af n cf)/\W.cell? ⟨b6,0,none⟩=some (.int .i64 (x:Int))) (go_simp)
        (first
        | ((with_reducible refine Calls.mono HCl.o ?_);rintro e w2 ⟨vm,rfl,hm2,hb2⟩;have e0:w2.cell? ⟨w.heap.size,0,none⟩=some (.slice ag ng cg):=(hb2.cell (p:=⟨w.heap.size,0,none⟩) hq0).trans x0;have e1:w2.cell? ⟨w.heap.size,1,none⟩=some (.slice af n cf):=(hb2.cell (p:=⟨w.heap.size,1,none⟩) hq0).trans x1;have e2:w2.cell? ⟨b6,0,none⟩=some (.int .i64 (x:Int)):=(hb2.cell (p:=⟨b6,0,none⟩) hb6).trans q6))
      have hb2':Bl wr w2:=hdr.trans hb2;have HM2:Hid (IRow wr.heap.size w2 vm L):=hm2;obtain⟨am,cm,rfl⟩:=hm2.shape;have HO2:Hid (IRow (w.heap.size+1) w2 (.slice a5 out.length c5) out):=HO.o.below hb2';have hB2:=hB.trans (hb2'.mono hT0);have HLt:Hid (∀g,(Value.slice a5 out.length c5).ownBlock=some g->g<wr.heap.size):=λg hg=>(World.ownsRow.lt HO.o g hg).2;have hs2:wr.heap.size<=w2.heap.size:=hb2'.size;have HWC2:Hid (∀j u,(rest.map (λg:Nat=>Value.int .i64 (g:Int)))[j]? = some u->(w2.alloc (.cells #[] 2)).cell? (ad.add j)=some u):=λj u hu=>by
        have hjl:j<rest.length:=by
          have:=(List.getElem?_eq_some_iff.1 hu).1
          simpa using this
        rw[HAd.o j hjl,World.cell?_alloc_lt _ _ ⟨b6,j+1,none⟩ (by show b6<_;omega),hb2'.cell (p:=⟨b6,j+1,none⟩) hb6,HWC.o j hjl hjl,<-hu];simp[hjl]
      have HE2:Hid (IRow w2.heap.size (w2.alloc (.cells #[] 2)) (.slice (some ⟨w2.heap.size,0,none⟩) 0 0) []):=irow_lit w2 _ n_;clear hm2 hb2 hb2' e0 e1 e2 x0 x1 q6 HWC HAd HCl HO;go_wp2_with (at_builtin;refine wpList_appF rfl _ _ _ rfl w2.heap.size 2 i1 _ 1 8 underlying26 hj hy0 hy1 hy2 rfl (by decide) _ 0 [] rfl HE2.o ad rest.length (c6-1) (rest.map (λg:Nat=>Value.int .i64 (g:Int))) rfl (by simp) HWC2.o (by intro u hu;simp at hu;obtain⟨y,_,rfl⟩:=hu;rfl) o_ (by decide) (by simp) ?_)
      intro v9 w3 ho9 hg9 hf9;have hb3:Bl w2 w3:=((Below.refl w2.heap.size w2).alloc n_ _).grown hg9 (by simp) (λg hg=>by simp only[Value.ownBlock,Option.some.injEq] at hg;omega);have hW9:IRow w2.heap.size w3 v9 rest:=by
        show World.ownsRow _ _ _ _ _ _ _;simpa using ho9
      have HW9:Hid (IRow (w.heap.size+1) w3 v9 rest):=IRow.base hW9 o_;have HO9:Hid (IRow (w.heap.size+1) w3 (.slice a5 out.length c5) out):=HO2.o.below hb3;have HI9:Hid (Ints w3 (.slice am L.length cm) (L.map (λg:Nat=>(g:Int)))):=(HM2.o.below hb3).ints;have HD1:Hid (∀g,v9.ownBlock=some g->(Value.slice a5 out.length c5).ownBlock≠some g):=λg hg h=>by
        have h1:=(World.ownsRow.lt hW9 g hg).1;have h2:=HLt.o g h;omega
      have HD2:Hid (∀g,(Value.slice am L.length cm).ownBlock=some g->(Value.slice a5 out.length c5).ownBlock≠some g/\v9.ownBlock≠some g):=λg hg=>by
        have h1:=World.ownsRow.lt HM2.o g hg;refine⟨λh => ?_,λh => ?_⟩
        · have h2:=HLt.o g h;omega
        · have h2:=(World.ownsRow.lt hW9 g h).1;omega
      have hB3:=hB2.trans (hb3.mono o_);obtain⟨a9,c9,rfl⟩:=hW9.shape;clear ho9 hg9 hf9 hb3 hW9 hB2 HM2 HO2 HE2 HWC2 hB HLt;go_wp2;go_loopw [5,6,8] (λov wv i w4=>∃(j:Nat) (out2 work2:List Nat),j<=L.length/\i=.int .i64 j/\RMid t f x (L.take j) out2 work2/\IRow (w.heap.size+1) w4 ov out2/\IRow (w.heap.size+1) w4 wv work2/\Ints w4 (.slice am L.length cm) (L.map (λg:Nat=>(g:Int)))/\(∀g,wv.ownBlock=some g->ov.ownBlock≠some g)/\(∀g,(Value.slice am L.length cm).ownBlock=some g->ov.ownBlock≠some g/\wv.ownBlock≠some g)/\out2.length+rest.length=out.length+work2.length/\Below (w.heap.size+1) (w.alloc (.cells #[.slice ag ng cg,.slice af n cf] 34)) w4) (λ_ _ i _=>L.length-(RowKit.intOf i).toNat)
      case atStart=>exact⟨0,out,rest,y_,rfl,by simpa using HM.o,HO9,HW9,HI9,HD1,HD2,rfl,hB3⟩
      case round=>
        clear HM HO9 HW9 HI9 HD1 HD2 hB3 hs2 hT0 hBw;obtain⟨j,out2,work2,hj2,rfl,hM,hO,hW,hI,hd1,hd2,hlw,hB⟩:=hrel;obtain⟨a5,c5,rfl⟩:=hO.shape;obtain⟨a6,c7,rfl⟩:=hW.shape;have HM:Hid (RMid t f x (L.take j) out2 work2):=hM;have HO:Hid (IRow (w.heap.size+1) wr (.slice a5 out2.length c5) out2):=hO;have HW:Hid (IRow (w.heap.size+1) wr (.slice a6 work2.length c7) work2):=hW;have HI:Hid (Ints wr (.slice am L.length cm) (L.map (λg:Nat=>(g:Int)))):=hI;have HD1:Hid (∀g,(Value.slice a6 work2.length c7).ownBlock=some g->(Value.slice a5 out2.length c5).ownBlock≠some g):=hd1;have HD2:Hid (∀g,(Value.slice am L.length cm).ownBlock=some g->(Value.slice a5 out2.length c5).ownBlock≠some g/\(Value.slice a6 work2.length c7).ownBlock≠some g):=hd2;have hon2:=hM.len;rw[<-HN.o] at hon2;have hsz:w.heap.size+1<=wr.heap.size:=by have:=hB.size;simpa using this
        have hwl:work2.length<=5000:=by omega
        clear hM hO hW hd1 hd2;by_cases hjl:j<L.length
        · obtain⟨_,_,he0,hic⟩:=hI
          simp only[Value.slice.injEq,List.length_map,true_and] at he0 hic;obtain⟨rfl,rfl⟩:=he0;obtain⟨bm,rfl,hmc⟩:=hic o_;have d0:wr.cell? ⟨bm,j,none⟩=some (.int .i64 (L[j]:Int)):=by have:=hmc j hjl;simpa using this
          have hbm:bm<wr.heap.size:=b_ d0;have HT1:Hid (L.take (j+1)=L.take j++[L[j]]):=take_succ L j hjl;have HYC:Hid (CallR t x L[j]):=(HL.o _).2 (g_ hjl);clear hmc hic;generalize L[j]=y at d0 HT1 HYC;have HHs:Hid (Calls prog 58 #[.slice a5 out2.length c5,.int .i64 (y:Int)] wr λe w'=>e=.returned (.bool (decide (y∈out2)))/\Bl wr w'):=l3has_any out2 _ y wr o_ HO.o.ints;go_wp2_with fail;refine HHs.o.mono ?_;rintro e w5 ⟨rfl,hb5⟩;have d5:=(hb5.cell (p:=⟨bm,j,none⟩) hbm).trans d0;have HO5:Hid (IRow (w.heap.size+1) w5 (.slice a5 out2.length c5) out2):=HO.o.below hb5;have HW5:Hid (IRow (w.heap.size+1) w5 (.slice a6 work2.length c7) work2):=HW.o.below hb5;have HI5:Hid (Ints w5 (.slice (some ⟨bm,0,none⟩) L.length cm) (L.map (λg:Nat=>(g:Int)))):=HI.o.below hb5;have hB5:=hB.trans (hb5.mono hsz);have hbm5:bm<w5.heap.size:=l_ hbm hb5.size;have hsz5:w.heap.size+1<=w5.heap.size:=t_ hsz hb5.size;clear hb5 HHs d0 HO HW HI hB hbm;by_cases hy:y∈out2
          · rw[decide_eq_true hy]
            have HM2:Hid (RMid t f x (L.take (j+1)) out2 work2):=by show RMid _ _ _ _ _ _;rw[HT1.o];exact HM.o.old hy
            clear hy;go_wp2;go_roundw
            case rel=>exact⟨j+1,out2,work2,by omega,by go_num,HM2,HO5,HW5,HI5,HD1,HD2,hlw,hB5⟩
            case measure=>simp[RowKit.intOf];omega
          · rw[decide_eq_false hy]
            have HM2:Hid (RMid t f x (L.take (j+1)) (out2++[y]) (work2++[y])):=by show RMid _ _ _ _ _ _;rw[HT1.o];exact HM.o.new hy HYC
            clear hy;go_wp2_with (at_builtin;refine wpList_appF rfl _ _ _ rfl (w.heap.size+1) 2 i1 _ 1 8 underlying26 hj hy0 hy1 hy2 rfl (by decide) _ out2.length (out2.map (λg:Nat=>Value.int .i64 (g:Int))) rfl (HO5.o.below (bel_a _ _)) ⟨w5.heap.size,0,none⟩ 1 1 [.int .i64 (y:Int)] rfl rfl (cell_one_new _ _ _) (by simp[Value.oneCell']) o_ (by decide) (by simp;omega) ?_)
            intro v6 w6 ho6 hg6 hf6;have HO6:Hid (IRow (w.heap.size+1) w6 v6 (out2++[y])):=by
              show World.ownsRow _ _ _ _ _ _ _;simpa using ho6
            have hal:Bl w5 (w5.alloc (.cells #[.int .i64 (y:Int)] 2)):=bel_a _ _;have HW6:Hid (IRow (w.heap.size+1) w6 (.slice a6 work2.length c7) work2):=(HW5.o.below hal).grown hg6 (λg hg=>HD1.o g hg);have HI6:Hid (Ints w6 (.slice (some ⟨bm,0,none⟩) L.length cm) (L.map (λg:Nat=>(g:Int)))):=(HI5.o.below hal).grown hg6 (λg hg=>(HD2.o g hg).1);have d6:w6.cell? ⟨bm,j,none⟩=some (.int .i64 (y:Int)):=(c_ (a:=⟨bm,j,none⟩) (hg6.block bm (by simp;omega) (λe=>(HD2.o bm rfl).1 e.symm))).trans ((hal.cell (p:=⟨bm,j,none⟩) hbm5).trans d5);have hB6:=(hB5.alloc hsz5 (.cells #[.int .i64 (y:Int)] 2)).grown hg6 (by simp;omega) (λg hg=>(World.ownsRow.lt HO5.o g hg).1);have hsz6:w5.heap.size+1<=w6.heap.size:=by have:=hg6.size;simpa using this
            have HL5:Hid (∀g,(Value.slice a6 work2.length c7).ownBlock=some g->g<w5.heap.size):=λg hg=>(World.ownsRow.lt HW5.o g hg).2;have HD61:Hid (∀g,(Value.slice a6 work2.length c7).ownBlock=some g->v6.ownBlock≠some g):=λg hg h=>by
              rcases hf6 g h with h1|h1
              · exact HD1.o g hg h1
              · have:=HL5.o g hg;omega
            have HD62:Hid (bm<w5.heap.size/\v6.ownBlock≠some bm):=⟨hbm5,λh=>by
              rcases hf6 bm h with h1|h1
              · exact (HD2.o bm rfl).1 h1
              · omega⟩
            have HL6:Hid (∀g,v6.ownBlock=some g->g<w6.heap.size):=λg hg=>(World.ownsRow.lt HO6.o g hg).2;obtain⟨a8,c8,rfl⟩:=HO6.o.shape;have hle8:(out2++[y]).length=out2.length+1:=by simp
            rw[hle8] at HO6 HD61 HD62 HL6 ⊢;clear ho6 hg6 hf6 hal HO5 HW5 HI5 d5 hB5 HD1 HM hle8;go_wp2_with (at_builtin;refine wpList_appF rfl _ _ _ rfl (w.heap.size+1) 2 i1 _ 1 8 underlying26 hj hy0 hy1 hy2 rfl (by decide) _ work2.length (work2.map (λg:Nat=>Value.int .i64 (g:Int))) rfl (HW6.o.below (bel_a _ _)) ⟨w6.heap.size,0,none⟩ 1 1 [.int .i64 (y:Int)] rfl rfl (cell_one_new _ _ _) (by simp[Value.oneCell']) o_ (by decide) (by simp;omega) ?_)
            intro v7 w7 ho7 hg7 hf7;have HW7:Hid (IRow (w.heap.size+1) w7 v7 (work2++[y])):=by
              show World.ownsRow _ _ _ _ _ _ _;simpa using ho7
            have hal:Bl w6 (w6.alloc (.cells #[.int .i64 (y:Int)] 2)):=bel_a _ _;have HO7:Hid (IRow (w.heap.size+1) w7 (.slice a8 (out2.length+1) c8) (out2++[y])):=(HO6.o.below hal).grown hg7 (λg hg h=>HD61.o g h hg);have HI7:Hid (Ints w7 (.slice (some ⟨bm,0,none⟩) L.length cm) (L.map (λg:Nat=>(g:Int)))):=(HI6.o.below hal).grown hg7 (λg hg=>(HD2.o g hg).2);have hB7:=(hB6.alloc o_ (.cells #[.int .i64 (y:Int)] 2)).grown hg7 (by simp;omega) (λg hg=>(World.ownsRow.lt HW6.o g hg).1);have HD71:Hid (∀g,v7.ownBlock=some g->(Value.slice a8 (out2.length+1) c8).ownBlock≠some g):=λg hg h=>by
              rcases hf7 g hg with h1|h1
              · exact HD61.o g h1 h
              · have:=HL6.o g h;omega
            have HD72:Hid (∀g,(Value.slice (some ⟨bm,0,none⟩) L.length cm).ownBlock=some g->(Value.slice a8 (out2.length+1) c8).ownBlock≠some g/\v7.ownBlock≠some g):=λg hg=>by
              simp only[Value.ownBlock,Option.some.injEq] at hg;subst hg;refine⟨HD62.o.2,λh => ?_⟩;rcases hf7 _ h with h1|h1
              · exact (HD2.o _ rfl).2 h1
              · have:=HD62.o.1;omega
            obtain⟨a7,c9',rfl⟩:=HW7.o.shape;have hle7:(work2++[y]).length=work2.length+1:=by simp
            rw[hle7] at HW7 HD71 HD72 ⊢;clear ho7 hg7 hf7 hal HO6 HW6 HI6 d6 hB6 HD61 HD62 HL5 HL6 HD2 hle7;go_wp2;go_roundw
            case rel=>exact⟨j+1,out2++[y],work2++[y],by omega,by go_num,HM2,by simpa using HO7.o,by simpa using HW7.o,HI7,by simpa using HD71.o,by simpa using HD72.o,by simp;omega,hB7⟩
            case measure=>simp[RowKit.intOf];omega
        · have HMd:Hid (RInv t f out2 work2):=by
            have h1:=HM.o;rw[List.take_of_length_le o_] at h1;exact h1.done (λy hy=>(HL.o y).1 hy)
          clear hI;go_wp2;go_roundg ((n-out2.length)+work2.length)
          case measure=>omega
          case rel=>exact⟨out2,work2,rfl,by omega,HMd,HO,HW.o.ints,HW.o.cap,HD1,hB⟩
end
section
variable {t:Tr}
def preE (t:Tr):Int × Int × Int:=if (namesE t).1≠0 then namesE t else bodiesE t 0 t.funcs
theorem namesE_ok (h:(namesE t).1=0):namesE t=(0,-1,-1):=by
 by_cases ht:(topE t).1=0
 ·rw[names_main ht] at h ⊢;simp only at h;rw[h]
 ·rw[names_top ht] at h;exact absurd h ht
theorem bodyE_ok {i:Nat} {f:Fu} (h:(bodyE t i f).1=0):bodyE t i f=(0,-1,-1):=by
 unfold bodyE at h ⊢;split
 ·rename_i h1;rw[if_pos h1] at h;simp at h
 ·rename_i h1;rw[if_neg h1] at h;split
  ·rename_i h2;rw[if_pos h2] at h;exact absurd h h2
  ·rfl
theorem check_pre (h:treeB t=true) (hp:(preE t).1≠0):checkE t=preE t:=by
 unfold preE at hp ⊢;by_cases hn:(namesE t).1=0
 ·rw[if_neg (by simp[hn])] at hp ⊢;exact check_bodies h hn hp
 ·rw[if_pos hn];exact check_names h hn
theorem names_ok_main (h:(namesE t).1=0) : ∃m,fnum t.funcs mainS=some m:=by
 by_cases ht:(topE t).1=0
 ·rw[names_main ht] at h;exact main_zero h
 ·rw[names_top ht] at h;exact absurd h ht
structure CLk (t:Tr) (k:Nat) (r:Int × Int × Int):Prop where
 bad:r.1≠0->preE t=r
 ok:r.1=0->(namesE t).1=0/\r=(0,-1,-1)/\bodiesE t 0 t.funcs=bodiesE t k (t.funcs.drop k)
theorem CLk.start (t:Tr):CLk t 0 (namesE t):=by
 refine⟨λh => ?_,λh=>⟨h,namesE_ok h,by simp⟩⟩;unfold preE;rw[if_pos h]
theorem CLk.next {k:Nat} {r:Int × Int × Int} (h:CLk t k r) (h0:r.1=0) (hk:k<t.funcs.length):CLk t (k+1) (bodyE t k t.funcs[k]):=by
 obtain⟨h1,h2,h3⟩:=h.ok h0;rw[drop_cons_ _ _ hk,bodiesE] at h3;refine⟨λhb => ?_,λhb=>⟨h1,bodyE_ok hb,?_⟩⟩
 ·unfold preE;rw[if_neg (by simp[h1]),h3,if_pos hb]
 ·rw[h3,if_neg (by simp[hb])]
theorem CLk.all {r:Int × Int × Int} (h:CLk t t.funcs.length r) (h0:r.1=0):(namesE t).1=0/\(bodiesE t 0 t.funcs).1=0/\r=(0,-1,-1):=by
 obtain⟨h1,h2,h3⟩:=h.ok h0;rw[List.drop_length] at h3;exact⟨h1,by rw[h3];rfl,h2⟩
theorem box3B {B:Nat} {w w':World} {x y z:Value} (h:w.cell? ⟨B,0,none⟩=some x/\w.cell? ⟨B,1,none⟩=some y/\w.cell? ⟨B,2,none⟩=some z) (hf : ∀o,w.frozen? ⟨B,o,none⟩=false) (hb:Below w.heap.size w w') :
  (w'.cell? ⟨B,0,none⟩=some x/\w'.cell? ⟨B,1,none⟩=some y/\w'.cell? ⟨B,2,none⟩=some z)/\∀o,w'.frozen? ⟨B,o,none⟩=false:=by
 have hl:=b_ h.1;exact⟨⟨(hb.cell (p:=⟨B,0,none⟩) hl).trans h.1,(hb.cell (p:=⟨B,1,none⟩) hl).trans h.2.1,(hb.cell (p:=⟨B,2,none⟩) hl).trans h.2.2⟩,λo=>(hb.frozen (p:=⟨B,o,none⟩) hl).trans (hf o)⟩
theorem checkCG_any (HBl : ∀n,L3Block n) (t:Tr) (vg vf:Value) (w:World) (hs:smallT t) (hw:wfT t) (hg:Globs w vg t.globals) (hf:Funcs w vf t.funcs) :
  Calls prog 24 #[.agg #[vg,vf]] w λe w'=>e=.returned (resV (checkE t))/\Below w.heap.size w w':=by
 have HBL:=hide HBl;obtain⟨RES,hRES⟩ : ∃R,R=checkE t:=⟨_,rfl⟩;rw[<-hRES];have HRES:=hide hRES;have HG:=hide hg;have HF:=hide hf;have HS:=hide hs;have HW:=hide hw;obtain⟨ag,cg,rfl,-⟩:=hg;obtain⟨af,cf,rfl,-⟩:=hf;obtain⟨W1,hW1⟩ : ∃W1,W1=(w.alloc (.cells #[.slice ag t.globals.length cg,.slice af t.funcs.length cf] 34)).alloc (.cells #[.int .i64 0,.int .i64 0,.int .i64 0] 52):=⟨_,rfl⟩;have HBx:Hid (∀W,Below (w.heap.size+2) W1 W->(W.cell? ⟨w.heap.size,0,none⟩=some (.slice ag t.globals.length cg)/\W.cell? ⟨w.heap.size,1,none⟩=some (.slice af t.funcs.length cf))/\(W.cell? ⟨w.heap.size+1,0,none⟩=some (.int .i64 0)/\W.cell? ⟨w.heap.size+1,1,none⟩=some (.int .i64 0)/\W.cell? ⟨w.heap.size+1,2,none⟩=some (.int .i64 0))/\(∀o,W.frozen? ⟨w.heap.size+1,o,none⟩=false)/\Bl w W/\w.heap.size+2<=W.heap.size):=two_boxC hW1;have hs1:W1.heap.size=w.heap.size+2:=by rw[hW1];simp
 obtain⟨-,-,-,hB1,-⟩:=HBx W1 r_;clear hRES HBl hs hw;go_enter func24,ntmps24;go_wp2_with fail;rw[<-hW1];clear hW1;refine (gtree_any t _ _ W1 HS (HG.o.below hB1) (HF.o.below hB1)).mono ?_;rintro e w2 ⟨rfl,hb2⟩;have hB2:Below (w.heap.size+2) W1 w2:=hb2.mono o_;clear hb2 hs1 hB1;obtain⟨⟨x0,x1⟩,⟨r0,r1,r2⟩,rz,hBw,hsz⟩:=HBx w2 hB2;have z0:=rz 0;have z1:=rz 1;have z2:=rz 2;cases htb:treeB t with
 | false=>
  have HE:Hid (RES=(1,-1,-1)):=HRES.o.trans (check_tree htb);clear htb rz;go_wp2_with fail;obtain⟨t0,t1,t2⟩:=set3 (u0:=.int .i64 1) (u1:=.int .i64 (-1)) (u2:=.int .i64 (-1)) r0 r1 r2;refine bodyPost_ret (v:=.agg #[.int .i64 1,.int .i64 (-1),.int .i64 (-1)]) (by simp[results,results24,go_sem,t0,t1,t2]) rfl ⟨ret_val (by rw[HE.o];rfl),?_⟩;exact ((hBw.setCell (p:=⟨w.heap.size+1,0,none⟩) (by simp) _).setCell (p:=⟨w.heap.size+1,1,none⟩) (by simp) _).setCell (p:=⟨w.heap.size+1,2,none⟩) (by simp) _
 | true=>
  have HB:=hide htb;have hok:=okt htb HS HW;have HOk:=hide hok;have hfl:=hok.fl;have hgl:=hok.gl;clear htb hok rz r0 r1 r2 z0 z1 z2;go_wp2_with fail;refine (l3names_any t _ _ w2 o_ o_ (HG.o.below hBw) (HF.o.below hBw)).mono ?_;rintro e w3 ⟨rfl,hb3⟩;have hB3:Below (w.heap.size+2) W1 w3:=hB2.trans (hb3.mono hsz);clear x0 x1 hBw hb3 hsz hB2;obtain⟨⟨x0,x1⟩,-,-,hBw,hsz⟩:=HBx w3 hB3;obtain⟨n0,n1,n2,hn⟩ : ∃n0 n1 n2,namesE t=(n0,n1,n2):=⟨_,_,_,rfl⟩;have HLk:Hid (CLk t 0 (n0,n1,n2)):=by rw[<-hn];exact CLk.start t
  rw[hn,show resV (n0,n1,n2)=.agg #[.int .i64 n0,.int .i64 n1,.int .i64 n2] from rfl];clear hn;go_wp2_with fail;obtain⟨B3,hB3e⟩ : ∃B3,B3=w3.heap.size:=⟨_,rfl⟩;have HQ0:Hid (Below (w.heap.size+2) W1 (w3.alloc (.cells #[.int .i64 n0,.int .i64 n1,.int .i64 n2] 52))):=hB3.alloc hsz _;have HQ1:Hid (((w3.alloc (.cells #[.int .i64 n0,.int .i64 n1,.int .i64 n2] 52)).cell? ⟨B3,0,none⟩=some (.int .i64 n0)/\(w3.alloc (.cells #[.int .i64 n0,.int .i64 n1,.int .i64 n2] 52)).cell? ⟨B3,1,none⟩=some (.int .i64 n1)/\(w3.alloc (.cells #[.int .i64 n0,.int .i64 n1,.int .i64 n2] 52)).cell? ⟨B3,2,none⟩=some (.int .i64 n2))/\∀o,(w3.alloc (.cells #[.int .i64 n0,.int .i64 n1,.int .i64 n2] 52)).frozen? ⟨B3,o,none⟩=false):=by
   rw[hB3e];exact⟨⟨by simp,by simp,by simp⟩,λo=>by simp⟩
  have hBB:w.heap.size+2<=B3:=by omega
  rw[<-hB3e];clear hB3e x0 x1 hBw hsz hB3;go_loopw [4] (λi wr=>∃(k:Nat) (r0 r1 r2:Int),k<=t.funcs.length/\i=.int .i64 k/\(wr.cell? ⟨B3,0,none⟩=some (.int .i64 r0)/\wr.cell? ⟨B3,1,none⟩=some (.int .i64 r1)/\wr.cell? ⟨B3,2,none⟩=some (.int .i64 r2))/\(∀o,wr.frozen? ⟨B3,o,none⟩=false)/\CLk t k (r0,r1,r2)/\Below (w.heap.size+2) W1 wr) (λi _=>t.funcs.length-(RowKit.intOf i).toNat)
  case atStart=>exact⟨0,n0,n1,n2,y_,rfl,HQ1.o.1,HQ1.o.2,HLk,HQ0⟩
  case round=>
   clear HQ0 HQ1 HLk;obtain⟨k,q0,q1,q2,hk,rfl,⟨b0,b1,b2⟩,bz,hlk,hB⟩:=hrel;have HLk:=hide hlk;have HBz:=hide bz;have bz0:=bz 0;have bz1:=bz 1;have bz2:=bz 2;have hB3l:B3<wr.heap.size:=b_ b0;obtain⟨⟨x0,x1⟩,⟨r0,r1,r2⟩,rz,hBw,hsz⟩:=HBx wr hB;clear hlk bz;by_cases hlt:k<t.funcs.length
   ·by_cases hq:q0=0
    ·subst hq;have HLn:Hid (CLk t (k+1) (bodyE t k t.funcs[k])):=HLk.o.next rfl hlt;have HBo:Hid (Calls prog 56 #[.agg #[.slice ag t.globals.length cg,.slice af t.funcs.length cf],.int .i64 (k:Int)] wr λe w'=>e=.returned (resV (bodyE t k t.funcs[k]))/\Bl wr w'):=l3body_any HBL t _ _ k wr hlt o_ o_ (HOk.o.f _ (g_ hlt)) (HG.o.below hBw) (HF.o.below hBw);obtain⟨m0,m1,m2,hm⟩ : ∃m0 m1 m2,bodyE t k t.funcs[k]=(m0,m1,m2):=⟨_,_,_,rfl⟩;rw[hm] at HLn HBo;have HBo2:Hid (Calls prog 56 #[.agg #[.slice ag t.globals.length cg,.slice af t.funcs.length cf],.int .i64 (k:Int)] wr λe w'=>e=.returned (.agg #[.int .i64 m0,.int .i64 m1,.int .i64 m2])/\Bl wr w'):=HBo;clear hm HBo r0 r1 r2 rz;go_wp2_with fail;refine HBo2.o.mono ?_;rintro e w4 ⟨rfl,hb4⟩;obtain⟨⟨c0,c1,c2⟩,cz⟩:=box3B ⟨b0,b1,b2⟩ HBz hb4;have cz0:=cz 0;have cz1:=cz 1;have cz2:=cz 2;have HCz:Hid (∀o,w4.frozen? ⟨B3,o,none⟩=false):=cz;have hB4:=hB.trans (hb4.mono hsz);have HS3:Hid _:=set3 (u0:=.int .i64 m0) (u1:=.int .i64 m1) (u2:=.int .i64 m2) c0 c1 c2;clear hb4 b0 b1 b2 bz0 bz1 bz2 x0 x1 cz HBo2;go_wp2;go_roundw
     case rel=>exact⟨k+1,m0,m1,m2,by omega,by go_num,HS3,λo=>by simpa using HCz o,HLn,((hB4.setCell (p:=⟨B3,0,none⟩) hBB _).setCell (p:=⟨B3,1,none⟩) hBB _).setCell (p:=⟨B3,2,none⟩) hBB _⟩
     case measure=>simp[RowKit.intOf];omega
    ·have HE:Hid (RES=(q0,q1,q2)):=by
      have h1:=HLk.o.bad hq;show _=_;rw[HRES.o,check_pre HB.o (by rw[h1];exact hq),h1]
     have e1:(q0 == 0)=false:=by simpa using hq
     have z0:=rz 0;have z1:=rz 1;have z2:=rz 2;clear rz;go_wp2_with fail;obtain⟨t0,t1,t2⟩:=set3 (u0:=.int .i64 q0) (u1:=.int .i64 q1) (u2:=.int .i64 q2) r0 r1 r2;refine bodyPost_ret (v:=.agg #[.int .i64 q0,.int .i64 q1,.int .i64 q2]) (by simp[results,results24,go_sem,t0,t1,t2]) rfl ⟨ret_val (by rw[HE.o];rfl),?_⟩;exact ((hBw.setCell (p:=⟨w.heap.size+1,0,none⟩) (by simp) _).setCell (p:=⟨w.heap.size+1,1,none⟩) (by simp) _).setCell (p:=⟨w.heap.size+1,2,none⟩) (by simp) _
   ·have hkk:k=t.funcs.length:=by omega
    by_cases hq:q0=0
    ·subst hq;subst hkk;obtain⟨hn1,hn2,hn3⟩:=HLk.o.all rfl;simp only[Prod.mk.injEq,true_and] at hn3;obtain⟨rfl,rfl⟩:=hn3;obtain⟨m,hm⟩:=names_ok_main hn1;have HR1:Hid (RES=circE t m 0 t.funcs.length):=HRES.o.trans (check_circ HB hn1 hn2 hm);have hml:=fnum_lt hm;have HFm:Hid (Calls prog 32 #[.agg #[.slice ag t.globals.length cg,.slice af t.funcs.length cf],.string ⟨#[109,97,105,110]⟩] wr λe w'=>e=.returned (.int .i64 (m:Int))/\Bl wr w'):=by
      have:=l3func_any t.funcs (.slice ag t.globals.length cg) _ mainS wr o_ (HF.o.below hBw)
      rw[fnumI_some hm] at this;exact this
     clear hn1 hn2 hm HLk r0 r1 r2 rz;go_wp2_with fail;refine HFm.o.mono ?_;rintro e w4 ⟨rfl,hb4⟩;have hB4:=hB.trans (hb4.mono hsz);have HQ4:=box3B ⟨b0,b1,b2⟩ HBz hb4;have HP4:=hide HQ4;clear hb4 b0 b1 b2 bz0 bz1 bz2 x0 x1 hBw hsz HQ4 HFm hB HBz hB3l;obtain⟨⟨x0,x1⟩,-,-,hBw,hsz⟩:=HBx w4 hB4;have HRe:Hid (∀(W:World) (f:Nat),Bl w4 W->f<t.funcs.length->Calls prog 57 #[.agg #[.slice ag t.globals.length cg,.slice af t.funcs.length cf],.slice (some ⟨W.heap.size,0,none⟩) 1 1] (W.alloc (.cells #[.int .i64 (f:Int)] 2)) λe w'=>∃v out,e=.returned v/\IRow (W.heap.size+1) w' v out/\(∀g,g∈out↔Rch t f g)/\out.length<=1000/\Bl W w'):=λW f hW hfl2=>by
      have hA:Bl W (W.alloc (.cells #[.int .i64 (f:Int)] 2)):=bel_a _ _;have hFW:Funcs (W.alloc (.cells #[.int .i64 (f:Int)] 2)) (.slice af t.funcs.length cf) t.funcs:=(HF.o.below (hBw.trans (hW.mono hBw.size))).below hA;refine (l3reach_any t (.slice ag t.globals.length cg) _ (.slice (some ⟨W.heap.size,0,none⟩) 1 1) f _ hfl2 o_ HOk.o.sm ⟨_,_,_,rfl⟩ hFW ?_ ?_).mono ?_
      ·refine⟨_,1,rfl,λ_=>⟨W.heap.size,rfl,λj hj => ?_⟩⟩;have hj0:j=0:=by simp at hj;omega
       subst hj0;simp
      ·intro a n c he;simp only[Value.slice.injEq] at he;omega
      ·rintro e w' ⟨v,out,he,h1,h2,h3,h4⟩;rw[World.size_alloc] at h1 h4;exact⟨v,out,he,h1,h2,h3,hA.trans (h4.mono o_)⟩
     obtain⟨i1,hj,hy0,hy1,hy2⟩:=info_parts info_i64;go_wp2_with fail;refine (HRe w4 m r_ hml).mono ?_;rintro e w5 ⟨v5,out,rfl,hv5,ho5,hl5,hb5⟩;have HV5:=hide hv5;have HO5:=hide ho5;obtain⟨a5,c5,rfl⟩:=hv5.shape;have hs5:w4.heap.size<=w5.heap.size:=hb5.size;clear hv5 ho5 x0 x1;go_wp2_with (at_builtin;refine wpList_appF rfl _ _ _ rfl w4.heap.size 2 i1 _ 1 8 underlying26 hj hy0 hy1 hy2 rfl (by decide) _ out.length (out.map (λg:Nat=>Value.int .i64 (g:Int))) rfl ((IRow.base HV5 o_).below (bel_a _ _)) ⟨w5.heap.size,0,none⟩ 1 1 [.int .i64 (m:Int)] rfl rfl (cell_one_new _ _ _) (by simp[Value.oneCell']) o_ (by decide) (by simp;omega) ?_)
     intro v6 w6 ho6 hg6 hf6;have HV6:Hid (IRow w4.heap.size w6 v6 (out++[m])):=by
      show World.ownsRow _ _ _ _ _ _ _;simpa using ho6
     have hb6:Bl w4 w6:=(hb5.alloc hb5.size (.cells #[.int .i64 (m:Int)] 2)).grown hg6 (by simp;omega) (λg hg=>by have:=(World.ownsRow.lt HV5.o g hg).1;omega);obtain⟨a6,c6,rfl⟩:=HV6.o.shape;have hle6:(out++[m]).length=out.length+1:=by simp
     rw[hle6] at HV6 ⊢;clear ho6 hg6 hf6 hb5 HV5 hs5;go_wp2;go_loopw [7] (λi wr=>∃(k:Nat),k<=t.funcs.length/\i=.int .i64 k/\RES=circE t m k (t.funcs.length-k)/\Bl w6 wr) (λi _=>t.funcs.length-(RowKit.intOf i).toNat)
     case atStart=>exact⟨0,y_,rfl,by simpa using HR1.o,r_⟩
     case round=>
      clear HR1;obtain⟨k,hk,rfl,hres,hB⟩:=hrel;have HR1:=hide hres;have hb7:Bl w4 wr:=hb6.trans (hB.mono hb6.size);obtain⟨⟨x0,x1⟩,⟨r0,r1,r2⟩,rz,hBw2,-⟩:=HBx wr (hB4.trans (hb7.mono hsz));have z0:=rz 0;have z1:=rz 1;have z2:=rz 2;obtain⟨⟨b0,b1,b2⟩,-⟩:=box3B HP4.o.1 HP4.o.2 hb7;clear hres rz;by_cases hlt:k<t.funcs.length
      ·have HR2:Hid (RES=circE t m k ((t.funcs.length-(k+1))+1)):=by
        show _=_;rw[HR1.o];congr 1
        omega
       have HHs:Hid (Calls prog 58 #[.slice a6 (out.length+1) c6,.int .i64 (k:Int)] wr λe w'=>e=.returned (.bool (decide (k∈out++[m])))/\Bl wr w'):=l3has_any (out++[m]) _ k wr (by simp;omega) (HV6.o.below hB).ints;clear r0 r1 r2 z0 z1 z2 b0 b1 b2;go_wp2_with fail;refine HHs.o.mono ?_;rintro e w8 ⟨rfl,hb8⟩;have hB8:=hB.trans (hb8.mono hB.size);have hb9:Bl w4 w8:=hb7.trans (hb8.mono hb7.size);clear x0 x1 hBw2 HHs hb8;by_cases hin:k∈out++[m]
       ·have HA:Hid (k=m∨Rch t m k):=by
         rw[List.mem_append,List.mem_singleton] at hin;rcases hin with h1|h1
         ·exact .inr ((HO5 k).1 h1)
         ·exact .inl h1
        rw[decide_eq_true hin];clear hin;obtain⟨⟨x0,x1⟩,-,-,-,-⟩:=HBx w8 (hB4.trans (hb9.mono hsz));go_wp2_with fail;refine (HRe w8 k hb9 hlt).mono ?_;rintro e w10 ⟨v10,out10,rfl,hv10,ho10,hl10,hb10⟩;obtain⟨a10,c10,rfl⟩:=hv10.shape;have HHs:Hid (Calls prog 58 #[.slice a10 out10.length c10,.int .i64 (k:Int)] w10 λe w'=>e=.returned (.bool (decide (k∈out10)))/\Bl w10 w'):=l3has_any out10 _ k w10 o_ hv10.ints;have hB10:=hB8.trans (hb10.mono hB8.size);have hb11:Bl w4 w10:=hb9.trans (hb10.mono hb9.size);have HO10:=hide ho10;clear x0 x1 hv10 hb10 ho10;go_wp2_with fail;refine HHs.o.mono ?_;rintro e w12 ⟨rfl,hb12⟩;have hB12:=hB10.trans (hb12.mono hB10.size);have hb13:Bl w4 w12:=hb11.trans (hb12.mono hb11.size);clear HHs hb12;by_cases h10:k∈out10
        ·rw[decide_eq_true h10];have HE:Hid (RES=(7,(k:Int),-1)):=by show _=_;rw[HR2.o];exact circE_hit ⟨HA,(HO10 k).1 h10⟩
         obtain⟨-,⟨r0,r1,r2⟩,rz,hBw,-⟩:=HBx w12 (hB4.trans (hb13.mono hsz));have z0:=rz 0;have z1:=rz 1;have z2:=rz 2;clear rz h10;go_wp2_with fail;obtain⟨t0,t1,t2⟩:=set3 (u0:=.int .i64 7) (u1:=.int .i64 (k:Int)) (u2:=.int .i64 (-1)) r0 r1 r2;refine bodyPost_ret (v:=.agg #[.int .i64 7,.int .i64 (k:Int),.int .i64 (-1)]) (by simp[results,results24,go_sem,t0,t1,t2]) rfl ⟨ret_val (by rw[HE.o];rfl),?_⟩;exact ((hBw.setCell (p:=⟨w.heap.size+1,0,none⟩) (by simp) _).setCell (p:=⟨w.heap.size+1,1,none⟩) (by simp) _).setCell (p:=⟨w.heap.size+1,2,none⟩) (by simp) _
        ·rw[decide_eq_false h10];have HN:Hid (RES=circE t m (k+1) (t.funcs.length-(k+1))):=by show _=_;rw[HR2.o];exact circE_step (λh=>h10 ((HO10 k).2 h.2))
         clear h10;go_wp2;go_roundw
         case rel=>exact⟨k+1,by omega,by go_num,HN,hB12⟩
         case measure=>simp[RowKit.intOf];omega
       ·rw[decide_eq_false hin];have HN:Hid (RES=circE t m (k+1) (t.funcs.length-(k+1))):=by
         show _=_;rw[HR2.o];refine circE_step (λh=>hin ?_);rw[List.mem_append,List.mem_singleton];rcases h.1 with h1|h1
         ·exact .inr h1
         ·exact .inl ((HO5 k).2 h1)
        clear hin;go_wp2;go_roundw
        case rel=>exact⟨k+1,by omega,by go_num,HN,hB8⟩
        case measure=>simp[RowKit.intOf];omega
      ·have HE:Hid (RES=(0,-1,-1)):=by
        show _=_;have e:t.funcs.length-k=0:=by omega
        rw[HR1.o,e];rfl
       have hBw:=hBw2;go_wp2_with fail;obtain⟨t0,t1,t2⟩:=set3 (u0:=.int .i64 0) (u1:=.int .i64 (-1)) (u2:=.int .i64 (-1)) r0 r1 r2;refine bodyPost_ret (v:=.agg #[.int .i64 0,.int .i64 (-1),.int .i64 (-1)]) (by simp[results,results24,go_sem,t0,t1,t2]) rfl ⟨ret_val (by rw[HE.o];rfl),?_⟩;exact ((hBw.setCell (p:=⟨w.heap.size+1,0,none⟩) (by simp) _).setCell (p:=⟨w.heap.size+1,1,none⟩) (by simp) _).setCell (p:=⟨w.heap.size+1,2,none⟩) (by simp) _
    ·have HE:Hid (RES=(q0,q1,q2)):=by
      have h1:=HLk.o.bad hq;show _=_;rw[HRES.o,check_pre HB.o (by rw[h1];exact hq),h1]
     have e1:(q0 == 0)=false:=by simpa using hq
     have z0:=rz 0;have z1:=rz 1;have z2:=rz 2;clear rz;go_wp2_with fail;obtain⟨t0,t1,t2⟩:=set3 (u0:=.int .i64 q0) (u1:=.int .i64 q1) (u2:=.int .i64 q2) r0 r1 r2;refine bodyPost_ret (v:=.agg #[.int .i64 q0,.int .i64 q1,.int .i64 q2]) (by simp[results,results24,go_sem,t0,t1,t2]) rfl ⟨ret_val (by rw[HE.o];rfl),?_⟩;exact ((hBw.setCell (p:=⟨w.heap.size+1,0,none⟩) (by simp) _).setCell (p:=⟨w.heap.size+1,1,none⟩) (by simp) _).setCell (p:=⟨w.heap.size+1,2,none⟩) (by simp) _
end
end Go.Proofs.YtffnkkpmlplfeaaGreatDoor
