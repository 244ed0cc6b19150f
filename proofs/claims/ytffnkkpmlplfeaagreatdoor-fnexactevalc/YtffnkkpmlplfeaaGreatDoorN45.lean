import Derived.Test.YtffnkkpmlplfeaaGreatDoorN40
import Derived.Deep.CutRange
namespace Go.Proofs.YtffnkkpmlplfeaaGreatDoor
open Go.Proofs.Tryz
open Go.RowKit
set_option linter.all false
set_option maxRecDepth 100000
set_option maxHeartbeats 16000000
variable[Inhabited Pick]
theorem l3block (n:Nat):L3Block n:=by
 induction n with
 | zero=>
  intro t vg vf vb vs vt ss a sc tk w hn hT hS hfit hsm hs ht hgl hfl hl1 hl2 ha hl3
  obtain rfl:ss = []:=List.eq_nil_of_length_eq_zero o_
  rw[blkE_nil]
  have HT:=hide ht
  obtain⟨ab,cb,rfl,-⟩:=hS
  obtain⟨ag,cg,rfl,-⟩:=hT.g
  obtain⟨af,cf,rfl,-⟩:=hT.f
  obtain⟨as_,cs_,rfl⟩:=hs.shape
  obtain⟨at_,ct_,rfl⟩:=ht.shape
  clear hT hs ht
  simp only[l_n] at *
  go_enter func91,ntmps91
  go_wp2_with fail
  refine wp_loop_rounds 1 ?_
  rw[rounds_succ]
  go_wp2_with fail
  refine bodyPost_ret (v:=.tuple #[.int .i64 0,.int .i64 0,.slice at_ tk.length ct_]) (by simp[results,results91,go_sem]) rfl ⟨_,rfl,HT.o.below (bel_a _ _),r_.alloc n_ _⟩
 | succ n ih=>
 intro t vg vf vb vs vt ss a sc tk w hn hT hS hfit hsm hs ht hgl hfl hl1 hl2 ha hl3
 have IH:=hide ih
 have HT:=hide hT
 have HS:=hide hS
 have HF:=hide hfit
 have HSm:=hide hsm
 have HSc:=hide hs
 have HTk:=hide ht
 obtain⟨ab,cb,rfl,hbc1,hbc2,hbc⟩:=hS
 have HBC:=hide hbc
 obtain⟨ag,cg,rfl,-⟩:=hT.g
 obtain⟨af,cf,rfl,-⟩:=hT.f
 obtain⟨as_,cs_,rfl⟩:=hs.shape
 obtain⟨at_,ct_,rfl⟩:=ht.shape
 clear hT hs ht hbc hsm hfit ih
 obtain⟨RES,hRES⟩ : ∃R,R=blkE t ss a sc tk:=⟨_,rfl⟩
 rw[<-hRES]
 have HRES:=hide hRES
 clear hRES
 go_enter func91,ntmps91
 go_wp2
 go_loopg [3,4,13] ss.length (λg sv tv i wr=>∃(k:Nat) (sc' tk':List ByteArray),g=ss.length-k/\k<=ss.length/\i=.int .i64 k/\Strs wr sv sc'/\Strs wr tv tk'/\RES=blkE t (ss.drop k) (a+k) sc' tk'/\fitB (ss.drop k)=true/\sc'.length+(ss.length-k)<=800000/\tk'.length+(ss.length-k)<=800000/\Below (w.heap.size+1) (w.alloc (.cells #[.slice ag t.globals.length cg,.slice af t.funcs.length cf] 34)) wr)
 case atStart=>exact⟨0,sc,tk,rfl,y_,rfl,HSc.o.below (bel_a _ _),HTk.o.below (bel_a _ _),by simpa using HRES.o,by simpa using HF.o,by omega,by omega,r_⟩
 case round=>
  obtain⟨k,sc1,tk1,hgk,hk,rfl,hs1,ht1,hres,hf1,hm1,hm2,hB⟩:=hrel
  obtain⟨as1,cs1,rfl⟩:=hs1.shape
  obtain⟨at1,ct1,rfl⟩:=ht1.shape
  have HS1:=hide hs1
  have HT1:=hide ht1
  have HR1:=hide hres
  have hBw:=one_below hB
  obtain⟨x0,x1⟩:=box2 hB
  have hT0:w.heap.size<wr.heap.size:=by have:=hB.size;simp at this;omega
  clear hs1 ht1 hres HSc HTk HRES HF
  by_cases hlt:k<ss.length
  ·obtain⟨b,off,rfl,hc⟩:=HBC.o o_
   obtain⟨ve,vf2,⟨c0,c1,c2,c3,c4,c5⟩,he,hf⟩:=(hc.below hBw) k hlt
   have hlb:b<wr.heap.size:=b_ c0
   have HR2:Hid (RES=blkE t (ss[k]::ss.drop (k+1)) (a+k) sc1 tk1):=by show _=_;rw[HR1.o,drop_cons2 _ _ hlt]
   rw[drop_cons2 _ _ hlt,fitB_cons,Bool.and_eq_true,Bool.and_eq_true,Bool.and_eq_true,decide_eq_true_iff] at hf1
   obtain⟨⟨p1,p2,p3,p4⟩,hf1,hf2,hf3⟩:=hf1
   have HSk:Hid (smallS ss[k]):=HSm.o _ (g_ hlt)
   have hrl:(ss.drop (k+1)).length=ss.length-(k+1):=by simp
   rw[hrl] at p2 p4
   have HNe:=hide he
   have HNf:=hide hf
   have HF1:=hide hf1
   have HF2:=hide hf2
   have HF3:=hide hf3
   obtain⟨a3,k3,rfl,-⟩:=he
   obtain⟨a4,k4,rfl,-⟩:=hf
   clear hc HR1 hf1 hf2 hf3
   generalize ss[k]=s at c0 c1 c2 c3 c4 c5 HR2 p1 p2 p3 p4 HSk HNe HNf HF1 HF2 HF3
   have hA:Bl wr (wr.alloc (.cells #[.int .i64 s.kind,.string s.name,.slice a3 s.e.length k3,.slice a4 s.f.length k4,.int .i64 s.thn,.int .i64 s.els] 132)):=bel_a _ _
   obtain⟨z1,hz1⟩ : ∃z1,z1=exprE t sc1 s.e:=⟨_,rfl⟩
   obtain⟨z2,hz2⟩ : ∃z2,z2=exprE t sc1 (s.e++s.f):=⟨_,rfl⟩
   have HZ2:=hide hz2
   have HZa:Hid (z1≠0->z2=z1):=λh=>by rw[hz2,exprE_append,<-hz1,if_neg h]
   have HZb:Hid (z1=0->z2=exprE t sc1 s.f):=λh=>by rw[hz2,exprE_append,<-hz1,if_pos h]
   clear hz2
   obtain⟨B0,hB0⟩ : ∃B0,B0=wr.alloc (.cells #[.int .i64 s.kind,.string s.name,.slice a3 s.e.length k3,.slice a4 s.f.length k4,.int .i64 s.thn,.int .i64 s.els] 132):=⟨_,rfl⟩
   obtain⟨M,hM⟩ : ∃M,M=wr.heap.size:=⟨_,rfl⟩
   have HBx:Hid (∀W,Bl B0 W->(W.cell? ⟨M,0,none⟩=some (.int .i64 s.kind)/\W.cell? ⟨M,1,none⟩=some (.string s.name)/\W.cell? ⟨M,2,none⟩=some (.slice a3 s.e.length k3)/\W.cell? ⟨M,3,none⟩=some (.slice a4 s.f.length k4)/\W.cell? ⟨M,4,none⟩=some (.int .i64 s.thn)/\W.cell? ⟨M,5,none⟩=some (.int .i64 s.els))/\W.cell? ⟨w.heap.size,0,none⟩=some (.slice ag t.globals.length cg)/\W.cell? ⟨w.heap.size,1,none⟩=some (.slice af t.funcs.length cf)/\M<W.heap.size/\Bl wr W):=λW hW=>by
    have h1:Below (wr.heap.size+1) (wr.alloc (.cells #[.int .i64 s.kind,.string s.name,.slice a3 s.e.length k3,.slice a4 s.f.length k4,.int .i64 s.thn,.int .i64 s.els] 132)) W:=by
     rw[<-hB0];exact hW.mono (by rw[hB0];simp)
    have h2:=one_below h1
    refine⟨by rw[hM];exact box6 h1,(h2.cell (p:=⟨w.heap.size,0,none⟩) hT0).trans x0,(h2.cell (p:=⟨w.heap.size,1,none⟩) hT0).trans x1,?_,h2⟩
    have:=h1.size
    simp at this
    omega
   have hBB:Bl wr B0:=by rw[hB0];exact hA
   have HTv:Hid (∀W,Bl B0 W->TrV W t (.slice ag t.globals.length cg) (.slice af t.funcs.length cf)/\Strs W (.slice as1 sc1.length cs1) sc1/\Strs W (.slice at1 tk1.length ct1) tk1):=λW hW=>by
    have h2:Bl wr W:=hBB.trans (hW.mono hBB.size)
    exact⟨HT.o.below (hBw.trans (h2.mono hBw.size)),HS1.o.below h2,HT1.o.below h2⟩
   have HNd:Hid (∀W,Bl B0 W->Nodes W (.slice a3 s.e.length k3) s.e/\Nodes W (.slice a4 s.f.length k4) s.f):=λW hW=>by
    have h2:Bl wr W:=hBB.trans (hW.mono hBB.size)
    exact⟨HNe.o.below h2,HNf.o.below h2⟩
   have he1:s.e.length<=1048576:=HSk.o.1
   have hf1:s.f.length<=1048576:=HSk.o.2
   have HBw:=hide hB
   go_wp2_with fail
   rw[<-hB0,<-hM]
   have hMw:w.heap.size≠M:=by omega
   clear hB0 hM x0 x1 c0 c1 c2 c3 c4 c5 hA hB hBw hBB
   obtain⟨hTv,hSv,hTkv⟩:=HTv.o B0 r_
   refine (l3expr_any t sc1 s.e _ _ _ _ B0 hgl hfl o_ he1 hTv.g hTv.f hSv (HNd.o B0 r_).1).mono ?_
   rintro e w2 ⟨rfl,hb2⟩
   rw[<-hz1]
   clear hz1 hTv hSv hTkv
   go_upto_if 31 with fail
   go_cut [15] from 17 to 169 (λe W=>e=.int .i64 z2/\Bl B0 W)
   case first=>as_aux_lemma=>
    obtain⟨⟨y0,y1,y2,y3,y4,y5⟩,x0,x1,hMs,hbr⟩:=HBx.o w2 hb2
    by_cases h0:z1=0
    ·have HZ:Hid (z2=exprE t sc1 s.f):=HZb.o h0
     subst h0
     go_wp2_with fail
     obtain⟨hTv,hSv,hTkv⟩:=HTv.o w2 hb2
     refine (l3expr_any t sc1 s.f _ _ _ _ w2 hgl hfl o_ hf1 hTv.g hTv.f hSv (HNd.o w2 hb2).2).mono ?_
     rintro e w3 ⟨rfl,hb3⟩
     clear hTv hSv hTkv
     go_wp2
     go_meet
     case rel=>exact⟨by rw[HZ.o],hb2.trans (hb3.mono hb2.size)⟩
    ·have HZ:Hid (z2=z1):=HZa.o h0
     go_wp2
     go_meet
     case rel=>exact⟨by rw[HZ.o],hb2⟩
   case rest=>
    clear hb2
    obtain⟨rfl,hb2⟩:=hcut
    obtain⟨b7,hb7⟩ : ∃b7,b7=decide (z2=0/\s.kind=1/\(inS tk1 s.name=true∨0<=globI t.globals s.name)):=⟨_,rfl⟩
    have HB7:=hide hb7
    clear hb7
    go_upto_region 7 with fail
    go_cut [56] from 17 to 169 (λe W=>e=.bool b7/\Bl B0 W)
    case first=>as_aux_lemma=>
     obtain⟨⟨y0,y1,y2,y3,y4,y5⟩,x0,x1,hMs,hbr⟩:=HBx.o wc hb2
     clear y2 y3 y4 y5
     by_cases h0:z2=0
     ·subst h0
      by_cases hk1:s.kind=1
      ·rw[hk1] at y0
       obtain⟨hTv,hSv,hTkv⟩:=HTv.o wc hb2
       have HIn:=hide (l3in_any tk1 _ s.name wc o_ hTkv)
       clear hTv hSv hTkv
       go_wp2_with fail
       refine HIn.o.mono ?_
       rintro e w3 ⟨rfl,hb3⟩
       have hb3':=hb2.trans (hb3.mono hb2.size)
       obtain⟨⟨q0,q1,-⟩,q6,q7,-⟩:=HBx.o w3 hb3'
       clear hb3 y0 y1 x0 x1 HIn
       cases hin:inS tk1 s.name with
       | true=>
        have HV:Hid (b7=true):=by show _=_;rw[HB7.o];simp[hk1,hin]
        clear hin
        go_wp2
        go_meet
        case rel=>exact⟨by rw[HV.o],hb3'⟩
       | false=>
        obtain⟨hTv,hSv,hTkv⟩:=HTv.o w3 hb3'
        have HGl:Hid (Calls prog 90 #[.agg #[.slice ag t.globals.length cg,.slice af t.funcs.length cf],.string s.name] w3 λe w'=>e=.returned (.int .i64 (globI t.globals s.name))/\Bl w3 w'):=l3global_any t.globals _ _ s.name w3 hgl hTv.g
        clear hTv hSv hTkv
        have HV:Hid (b7=decide (0<=globI t.globals s.name)):=by show _=_;rw[HB7.o,hin];simp[hk1]
        clear hin
        go_wp2_with fail
        refine HGl.o.mono ?_
        rintro e w4 ⟨rfl,hb4⟩
        have hb4':=hb3'.trans (hb4.mono hb3'.size)
        clear hb4 q0 q1 q6 q7 HGl
        generalize globI t.globals s.name=gi at HV ⊢
        go_wp2
        go_meet
        case rel=>exact⟨by rw[HV.o],hb4'⟩
      ·have HV:Hid (b7=false):=by show _=_;rw[HB7.o,decide_eq_false_iff_not];exact λh=>hk1 h.2.1
       have b1:(s.kind == 1)=false:=by simpa using hk1
       go_wp2
       go_meet
       case rel=>exact⟨by rw[HV.o],hb2⟩
     ·have HV:Hid (b7=false):=by show _=_;rw[HB7.o,decide_eq_false_iff_not];exact λh=>h0 h.1
      have b1:(z2 == 0)=false:=by simpa using h0
      go_wp2
      go_meet
      case rel=>exact⟨by rw[HV.o],hb2⟩
    case rest=>
     clear hb2
     obtain⟨rfl,hb2⟩:=hcut
     have hw1:IntKind.i64.wrap (a+(k:Int))=a+(k:Int):=by simp[IntKind.wrap,IntKind.bits,IntKind.signed];omega
     have HWw:Hid (∀W,Bl B0 W->Bl w W):=λW hW=>by
      have h1:=one_below HBw.o
      have h2:=(HBx.o W hW).2.2.2.2
      exact h1.trans (h2.mono h1.size)
     obtain⟨z4,hz4⟩ : ∃z4,z4=stmtE t sc1 tk1 s:=⟨_,rfl⟩
     have HZ4:=hide hz4
     clear hz4
     cases hb7:b7 with
     | true=>
      have HE:Hid (RES=(2,a+k,tk1)):=by
       have h1:=HB7.o
       rw[hb7] at h1
       have h2:=of_decide_eq_true h1.symm
       have h3:stmtE t sc1 tk1 s=2:=by rw[stmtE_decl (by rw[<-HZ2.o];exact h2.1) h2.2.1,if_pos h2.2.2]
       show _=_
       rw[HR2.o,blkE_bad (by rw[h3];decide),h3]
      clear hb7
      go_wp2_with fail
      refine bodyPost_ret (v:=.tuple #[.int .i64 2,.int .i64 (a+k),.slice at1 tk1.length ct1]) (by simp[results,results91,go_sem]) rfl ⟨_,by rw[HE.o],by rw[HE.o];exact (HTv.o wc hb2).2.2,HWw.o wc hb2⟩
     | false=>
      by_cases h0:z2=0
      ·have HQ:Hid (z4=if s.kind=2∨s.kind=3 then useE t.globals sc1 s.name (decide (s.kind=3)) else 0):=by
        have hq:exprE t sc1 (s.e++s.f)=0:=by rw[<-HZ2.o];exact h0
        have h1:=HB7.o
        rw[hb7] at h1
        have h2:=of_decide_eq_false h1.symm
        show _=_
        rw[HZ4.o]
        by_cases hk1:s.kind=1
        ·rw[stmtE_decl hq hk1,if_neg (λh=>h2 ⟨h0,hk1,h⟩),if_neg o_]
        ·by_cases hk2:s.kind=2∨s.kind=3
         ·rw[stmtE_use hq hk2,if_pos hk2]
         ·rw[stmtE_none hq hk1 (λh=>hk2 (.inl h)) (λh=>hk2 (.inr h)),if_neg hk2]
       subst h0
       clear hb7
       obtain⟨b9,hb9⟩ : ∃b9,b9=decide (s.kind=2∨s.kind=3):=⟨_,rfl⟩
       have HB9:=hide hb9
       clear hb9
       go_upto_region 9 with fail
       go_cut [68] from 17 to 169 (λe W=>e=.bool b9/\W=wc)
       case first=>as_aux_lemma=>
        obtain⟨⟨y0,-⟩,-⟩:=HBx.o wc hb2
        by_cases hk2:s.kind=2
        ·have HV:Hid (b9=true):=by show _=_;rw[HB9.o];simp[hk2]
         rw[hk2] at y0
         go_wp2
         go_meet
         case rel=>exact⟨by rw[HV.o],rfl⟩
        ·by_cases hk3:s.kind=3
         ·have HV:Hid (b9=true):=by show _=_;rw[HB9.o];simp[hk3]
          rw[hk3] at y0
          go_wp2
          go_meet
          case rel=>exact⟨by rw[HV.o],rfl⟩
         ·have HV:Hid (b9=false):=by show _=_;rw[HB9.o];simp[hk2,hk3]
          have b2:(s.kind == 2)=false:=by simpa using hk2
          have b3:(s.kind == 3)=false:=by simpa using hk3
          go_wp2
          go_meet
          case rel=>exact⟨by rw[HV.o],rfl⟩
       case rest=>
        obtain⟨rfl,rfl⟩:=hcut
        go_upto_if 68 with fail
        go_cut [15] from 17 to 169 (λe W=>e=.int .i64 z4/\Bl B0 W)
        case first=>as_aux_lemma=>
         cases hb9:b9 with
         | true=>
          have h2:s.kind=2∨s.kind=3:=by
           have h1:=HB9.o
           rw[hb9] at h1
           exact of_decide_eq_true h1.symm
          have HV:Hid (z4=useE t.globals sc1 s.name (decide (s.kind=3))):=by show _=_;rw[HQ.o,if_pos h2]
          obtain⟨⟨y0,y1,-⟩,x0,x1,-⟩:=HBx.o wc hb2
          obtain⟨hTv,hSv,hTkv⟩:=HTv.o wc hb2
          have HUs:Hid (∀ar,Calls prog 129 #[.agg #[.slice ag t.globals.length cg,.slice af t.funcs.length cf],.slice as1 sc1.length cs1,.string s.name,.bool ar] wc λe w'=>e=.returned (.int .i64 (useE t.globals sc1 s.name ar))/\Bl wc w'):=λar=>l3use_any t.globals sc1 _ _ _ s.name ar wc hgl o_ ⟨_,_,_,rfl⟩ hTv.g hSv
          clear hTv hSv hTkv hb9
          rcases h2 with h2|h2
          ·rw[h2] at y0
           have HV2:Hid (z4=useE t.globals sc1 s.name false):=by show _=_;rw[HV.o,h2];rfl
           go_wp2_with fail
           refine (HUs.o false).mono ?_
           rintro e w3 ⟨rfl,hb3⟩
           rw[<-HV2.o]
           clear y0 y1 x0 x1 HUs
           go_wp2
           go_meet
           case rel=>exact⟨rfl,hb2.trans (hb3.mono hb2.size)⟩
          ·rw[h2] at y0
           have HV2:Hid (z4=useE t.globals sc1 s.name true):=by show _=_;rw[HV.o,h2];rfl
           go_wp2_with fail
           refine (HUs.o true).mono ?_
           rintro e w3 ⟨rfl,hb3⟩
           rw[<-HV2.o]
           clear y0 y1 x0 x1 HUs
           go_wp2
           go_meet
           case rel=>exact⟨rfl,hb2.trans (hb3.mono hb2.size)⟩
         | false=>
          have h2 : ¬(s.kind=2∨s.kind=3):=by
           have h1:=HB9.o
           rw[hb9] at h1
           exact of_decide_eq_false h1.symm
          have HV:Hid (z4=0):=by show _=_;rw[HQ.o,if_neg h2]
          clear hb9
          go_wp2
          go_meet
          case rel=>exact⟨by rw[HV.o],hb2⟩
        case rest=>
         clear hb2 HQ HB9 HB7 HZ2 HZa HZb
         obtain⟨rfl,hb2⟩:=hcut
         by_cases h4:z4=0
         ·have HS0:Hid (stmtE t sc1 tk1 s=0):=by show _=_;rw[<-HZ4.o];exact h4
          subst h4
          clear HZ4
          obtain⟨⟨y0,y1,-⟩,-⟩:=HBx.o wc hb2
          go_upto_if 86 with fail
          go_cut [3,4] from 17 to 169 (λsv tv W=>Strs W sv (scp s sc1)/\Strs W tv (scp s tk1)/\Bl B0 W)
          case first=>as_aux_lemma=>
           obtain⟨-,hSv,hTkv⟩:=HTv.o wc hb2
           have HSv:=hide hSv
           have HTkv:=hide hTkv
           clear hSv hTkv
           by_cases hk1:s.kind=1
           ·have HSc:Hid (scp s sc1=sc1++[s.name]):=scp_yes hk1 sc1
            have HTc:Hid (scp s tk1=tk1++[s.name]):=scp_yes hk1 tk1
            rw[hk1] at y0 ⊢
            clear hk1
            have PA:=appA wc _ _ HSv.o
            have PB:=appB wc _ _ s.name HSv.o
            have PC:=appC wc _ _ s.name HSv.o
            have HPA:=hide PA
            have HPB:=hide PB
            have HPC:=hide PC
            clear PA PB PC
            have hMs:M<wc.heap.size:=(HBx.o wc hb2).2.2.2.1
            have hMn:M≠wc.heap.size:=by omega
            have hMn1:M≠wc.heap.size+1:=by omega
            have HMs:=hide hMs
            go_upto_region 14 with fail
            go_cut [3] from 17 to 169 (λsv W=>Strs W sv (sc1++[s.name])/\Bl wc W)
            case first=>as_aux_lemma=>
             go_region_held_law (λW=>W.cell? ⟨M,1,none⟩=some (.string s.name)) (first | go_keep | (go_split_ands;exact yA) | (go_split_ands;exact yB))
              (first
              | (refine step_appS (by rfl) _ _ (by rfl) wc.heap.size (.slice (some ⟨wc.heap.size,0,none⟩) 0 0) [] (by rfl) HPA.o.1 (.slice as1 sc1.length cs1) sc1 (by rfl) HPA.o.2.1 (by simp;omega) HPA.o.2.2.size ?_;intro v1 w1 hr1 hg1 hf1;have hb1:Bl wc w1:=appN HPA.o.2.2 HPA.o.1 hg1;have yA:=(hb1.cell (p:=⟨M,1,none⟩) HMs.o).trans y1)
              | (refine step_appS (by rfl) _ _ (by rfl) wc.heap.size (.slice (some ⟨wc.heap.size,0,none⟩) 0 0) [] (by rfl) HPB.o.1 (.slice as1 sc1.length cs1) sc1 (by rfl) HPB.o.2.1 (by simp;omega) HPB.o.2.2.1.size ?_;intro v1 w1 hr1 hg1 hf1;have hb1:Bl wc w1:=appN HPB.o.2.2.1 HPB.o.1 hg1;have yA:=(hb1.cell (p:=⟨M,1,none⟩) HMs.o).trans y1;have hcB:=(c_ (a:=⟨wc.heap.size+1,0,none⟩) (hg1.block (wc.heap.size+1) (by simp) (by simp[Value.ownBlock]))).trans HPB.o.2.2.2)
              | (refine step_appS (by rfl) _ _ (by rfl) wc.heap.size (.slice (some ⟨wc.heap.size+1,0,none⟩) 0 0) [] (by rfl) HPC.o.1 (.slice as1 sc1.length cs1) sc1 (by rfl) HPC.o.2.1 (by simp;omega) HPC.o.2.2.1.size ?_;intro v1 w1 hr1 hg1 hf1;have hb1:Bl wc w1:=appN HPC.o.2.2.1 HPC.o.1 hg1;have yA:=(hb1.cell (p:=⟨M,1,none⟩) HMs.o).trans y1;have hcC:=(c_ (a:=⟨wc.heap.size,0,none⟩) (hg1.block (wc.heap.size) (by simp;omega) (by simp[Value.ownBlock]))).trans HPC.o.2.2.2)
              | (refine step_appS (by rfl) _ _ (by rfl) wc.heap.size v1 sc1 (by rfl) (SRow.below hr1 (bel_a _ _)) (.slice (some ⟨w1.heap.size,0,none⟩) 1 1) [s.name] (by rfl) (ssrc_1 w1 s.name 9) (by simp;omega) (t_ hb1.size (by simp)) ?_;intro v2 w2 hr2 hg2 hf2;have hb2f:Bl wc w2:=appN (hb1.alloc hb1.size _) (SRow.below hr1 (bel_a _ _)) hg2;have yB:=(hb2f.cell (p:=⟨M,1,none⟩) HMs.o).trans y1)
              | (refine step_appS (by rfl) _ _ (by rfl) wc.heap.size v1 sc1 (by rfl) hr1 (.slice (some ⟨wc.heap.size+1,0,none⟩) 1 1) [s.name] (by rfl) (ssrc_cell hcB) (by simp;omega) hb1.size ?_;intro v2 w2 hr2 hg2 hf2;have hb2f:Bl wc w2:=appN hb1 hr1 hg2;have yB:=(hb2f.cell (p:=⟨M,1,none⟩) HMs.o).trans y1)
              | (refine step_appS (by rfl) _ _ (by rfl) wc.heap.size v1 sc1 (by rfl) hr1 (.slice (some ⟨wc.heap.size,0,none⟩) 1 1) [s.name] (by rfl) (ssrc_cell hcC) (by simp;omega) hb1.size ?_;intro v2 w2 hr2 hg2 hf2;have hb2f:Bl wc w2:=appN hb1 hr1 hg2;have yB:=(hb2f.cell (p:=⟨M,1,none⟩) HMs.o).trans y1))
             all_goals (simp only[List.getElem_toArray,List.getElem_cons_succ,List.getElem_cons_zero])
             all_goals (go_wp2_with fail)
             all_goals go_meet
             all_goals exact⟨SRow.strs hr2 (by simp;omega),hb2f⟩
            case rest=>
             clear HPA HPB HPC hMs hMn hMn1 HMs HSv HTkv y0 y1
             obtain⟨hs3,hb3⟩:=hcut
             have HS3:=hide hs3
             obtain⟨a9,c9,rfl⟩:=hs3.shape
             have hle9:(sc1++[s.name]).length=sc1.length+1:=by simp
             rw[hle9] at HS3 ⊢
             clear hle9
             have hb2n:=hb2.trans (hb3.mono hb2.size)
             clear hb2 hb3 hs3
             obtain⟨⟨y0,y1,-⟩,-⟩:=HBx.o wc hb2n
             have HTkv:Hid (Strs wc (.slice at1 tk1.length ct1) tk1):=(HTv.o wc hb2n).2.2
             have PA:=appA wc _ _ HTkv.o
             have PB:=appB wc _ _ s.name HTkv.o
             have PC:=appC wc _ _ s.name HTkv.o
             have HPA:=hide PA
             have HPB:=hide PB
             have HPC:=hide PC
             clear PA PB PC
             have hMs:M<wc.heap.size:=(HBx.o wc hb2n).2.2.2.1
             have hMn:M≠wc.heap.size:=by omega
             have hMn1:M≠wc.heap.size+1:=by omega
             have HMs:=hide hMs
             go_upto_region 15 with fail
             go_cut [4] from 17 to 169 (λsv W=>Strs W sv (tk1++[s.name])/\Bl wc W)
             case first=>as_aux_lemma=>
              go_region_held_law (λW=>W.cell? ⟨M,1,none⟩=some (.string s.name)) (first | go_keep | (go_split_ands;exact yA) | (go_split_ands;exact yB))
               (first
               | (refine step_appS (by rfl) _ _ (by rfl) wc.heap.size (.slice (some ⟨wc.heap.size,0,none⟩) 0 0) [] (by rfl) HPA.o.1 (.slice at1 tk1.length ct1) tk1 (by rfl) HPA.o.2.1 (by simp;omega) HPA.o.2.2.size ?_;intro v1 w1 hr1 hg1 hf1;have hb1:Bl wc w1:=appN HPA.o.2.2 HPA.o.1 hg1;have yA:=(hb1.cell (p:=⟨M,1,none⟩) HMs.o).trans y1)
               | (refine step_appS (by rfl) _ _ (by rfl) wc.heap.size (.slice (some ⟨wc.heap.size,0,none⟩) 0 0) [] (by rfl) HPB.o.1 (.slice at1 tk1.length ct1) tk1 (by rfl) HPB.o.2.1 (by simp;omega) HPB.o.2.2.1.size ?_;intro v1 w1 hr1 hg1 hf1;have hb1:Bl wc w1:=appN HPB.o.2.2.1 HPB.o.1 hg1;have yA:=(hb1.cell (p:=⟨M,1,none⟩) HMs.o).trans y1;have hcB:=(c_ (a:=⟨wc.heap.size+1,0,none⟩) (hg1.block (wc.heap.size+1) (by simp) (by simp[Value.ownBlock]))).trans HPB.o.2.2.2)
               | (refine step_appS (by rfl) _ _ (by rfl) wc.heap.size (.slice (some ⟨wc.heap.size+1,0,none⟩) 0 0) [] (by rfl) HPC.o.1 (.slice at1 tk1.length ct1) tk1 (by rfl) HPC.o.2.1 (by simp;omega) HPC.o.2.2.1.size ?_;intro v1 w1 hr1 hg1 hf1;have hb1:Bl wc w1:=appN HPC.o.2.2.1 HPC.o.1 hg1;have yA:=(hb1.cell (p:=⟨M,1,none⟩) HMs.o).trans y1;have hcC:=(c_ (a:=⟨wc.heap.size,0,none⟩) (hg1.block (wc.heap.size) (by simp;omega) (by simp[Value.ownBlock]))).trans HPC.o.2.2.2)
               | (refine step_appS (by rfl) _ _ (by rfl) wc.heap.size v1 tk1 (by rfl) (SRow.below hr1 (bel_a _ _)) (.slice (some ⟨w1.heap.size,0,none⟩) 1 1) [s.name] (by rfl) (ssrc_1 w1 s.name 9) (by simp;omega) (t_ hb1.size (by simp)) ?_;intro v2 w2 hr2 hg2 hf2;have hb2f:Bl wc w2:=appN (hb1.alloc hb1.size _) (SRow.below hr1 (bel_a _ _)) hg2;have yB:=(hb2f.cell (p:=⟨M,1,none⟩) HMs.o).trans y1)
               | (refine step_appS (by rfl) _ _ (by rfl) wc.heap.size v1 tk1 (by rfl) hr1 (.slice (some ⟨wc.heap.size+1,0,none⟩) 1 1) [s.name] (by rfl) (ssrc_cell hcB) (by simp;omega) hb1.size ?_;intro v2 w2 hr2 hg2 hf2;have hb2f:Bl wc w2:=appN hb1 hr1 hg2;have yB:=(hb2f.cell (p:=⟨M,1,none⟩) HMs.o).trans y1)
               | (refine step_appS (by rfl) _ _ (by rfl) wc.heap.size v1 tk1 (by rfl) hr1 (.slice (some ⟨wc.heap.size,0,none⟩) 1 1) [s.name] (by rfl) (ssrc_cell hcC) (by simp;omega) hb1.size ?_;intro v2 w2 hr2 hg2 hf2;have hb2f:Bl wc w2:=appN hb1 hr1 hg2;have yB:=(hb2f.cell (p:=⟨M,1,none⟩) HMs.o).trans y1))
              all_goals (simp only[List.getElem_toArray,List.getElem_cons_succ,List.getElem_cons_zero])
              all_goals (go_wp2_with fail)
              all_goals go_meet
              all_goals exact⟨SRow.strs hr2 (by simp;omega),hb2f⟩
             case rest=>
              clear HPA HPB HPC hMs hMn hMn1 HMs HTkv y0 y1
              obtain⟨ht4,hb4⟩:=hcut
              have HT4:=hide ht4
              have HS4:=hide (HS3.o.below hb4)
              have hb4n:=hb2n.trans (hb4.mono hb2n.size)
              clear hb4 ht4 hb2n HS3
              go_wp2
              go_meet
              case rel=>exact⟨by rw[HSc.o];exact HS4.o,by rw[HTc.o];exact HT4.o,hb4n⟩
           ·have HSc:Hid (scp s sc1=sc1):=scp_no hk1 sc1
            have HTc:Hid (scp s tk1=tk1):=scp_no hk1 tk1
            have b1:(s.kind == 1)=false:=by simpa using hk1
            go_wp2
            go_meet
            case rel=>exact⟨by rw[HSc.o];exact HSv.o,by rw[HTc.o];exact HTkv.o,hb2⟩
          case rest=>
           clear hb2 y0 y1
           obtain⟨hsv,htv,hb2⟩:=hcut
           have HSv:=hide hsv
           have HTk2:=hide htv
           obtain⟨a8,c8,rfl⟩:=hsv.shape
           obtain⟨a9,c9,rfl⟩:=htv.shape
           clear hsv htv
           obtain⟨l8,hl8⟩ : ∃l8,l8=(scp s sc1).length:=⟨_,rfl⟩
           obtain⟨l9,hl9⟩ : ∃l9,l9=(scp s tk1).length:=⟨_,rfl⟩
           have hq8:=scp_len s sc1
           have hq9:=scp_len s tk1
           rw[<-hl8] at HSv hq8 ⊢
           rw[<-hl9] at HTk2 hq9 ⊢
           have HL8:=hide hl8
           have HL9:=hide hl9
           clear hl8 hl9
           obtain⟨tn,htn⟩:=Int.eq_ofNat_of_zero_le p1
           obtain⟨ln,hln⟩:=Int.eq_ofNat_of_zero_le p3
           have HTN:Hid (s.thn.toNat=tn/\s.els.toNat=ln):=⟨by omega,by omega⟩
           have HTE:Hid (s.thn=tn/\s.els=ln):=⟨htn,hln⟩
           have hltn:k+1+tn<=ss.length:=by omega
           have hlln:k+1+tn+ln<=ss.length:=by omega
           rw[HTN.o.1] at HF1
           rw[HTN.o.1,HTN.o.2] at HF2 HF3
           have HRl:=hide hrl
           obtain⟨a5,k5,hr5,hs5⟩ : ∃a5 k5,(∀w:World,(Instr.slice 95 (.slice (some ⟨b,off,none⟩) ss.length cb) (some (.int .i64 ((k:Int)+1))) (some (.int .i64 ((k:Int)+1+(tn:Int)))) none).run prog w=.ok (.slice a5 tn k5) w)/\Stmts w (.slice a5 tn k5) ((ss.drop (k+1)).take tn):=by
            have h:=cut_run2 (some ⟨b,off,none⟩) ss.length cb (k+1) (k+1+tn) o_ o_ o_ ((k:Int)+1) ((k:Int)+1+(tn:Int)) o_ o_
            have h':=HS.o.cut (k+1) (k+1+tn) o_ o_
            rw[show k+1+tn-(k+1)=tn by omega] at h h'
            rw[drop_take_2] at h'
            exact⟨_,_,h,h'⟩
           obtain⟨a6,k6,hr6,hs6⟩ : ∃a6 k6,(∀w:World,(Instr.slice 95 (.slice (some ⟨b,off,none⟩) ss.length cb) (some (.int .i64 ((k:Int)+1+(tn:Int)))) (some (.int .i64 ((k:Int)+1+(tn:Int)+(ln:Int)))) none).run prog w=.ok (.slice a6 ln k6) w)/\Stmts w (.slice a6 ln k6) (((ss.drop (k+1)).take (tn+ln)).drop tn):=by
            have h:=cut_run2 (some ⟨b,off,none⟩) ss.length cb (k+1+tn) (k+1+tn+ln) o_ o_ o_ ((k:Int)+1+(tn:Int)) ((k:Int)+1+(tn:Int)+(ln:Int)) o_ o_
            have h':=HS.o.cut (k+1+tn) (k+1+tn+ln) o_ o_
            rw[show k+1+tn+ln-(k+1+tn)=ln by omega] at h h'
            rw[drop_take_3] at h'
            exact⟨_,_,h,h'⟩
           have HS5:=hide hs5
           have HS6:=hide hs6
           clear hs5 hs6
           have HWd:=HWw.o wc hb2
           have HI5:Hid (Calls prog 91 #[.agg #[.slice ag t.globals.length cg,.slice af t.funcs.length cf],.slice a5 tn k5,.int .i64 (a+k+1),.slice a8 l8 c8,.slice a9 l9 c9] wc.drew λe w'=>∃vt',e=.returned (.tuple #[.int .i64 (blkE t ((ss.drop (k+1)).take tn) (a+k+1) (scp s sc1) (scp s tk1)).1,.int .i64 (blkE t ((ss.drop (k+1)).take tn) (a+k+1) (scp s sc1) (scp s tk1)).2.1,vt'])/\Strs w' vt' (blkE t ((ss.drop (k+1)).take tn) (a+k+1) (scp s sc1) (scp s tk1)).2.2/\Bl wc.drew w'):=by
            have hwd:Bl wc wc.drew:=r_.drew
            have e8:=HL8.o
            have e9:=HL9.o
            have hrl:=HRl.o
            exact IH.out t _ _ _ _ _ _ (a+k+1) (scp s sc1) (scp s tk1) wc.drew (by simp;omega) (HT.o.below (HWd.drew)) (HS5.o.below HWd.drew) HF1.o (λx hx=>HSm.o x (List.mem_of_mem_drop (List.mem_of_mem_take hx))) (HSv.o.below hwd) (HTk2.o.below hwd) hgl hfl (by simp;omega) (by simp;omega) o_ (by simp;omega)
           obtain⟨⟨y0,y1,y2,y3,y4,y5⟩,x0,x1,hMs,hbr⟩:=HBx.o wc hb2
           rw[htn] at y4
           rw[hln] at y5
           have hT0c:w.heap.size<wc.heap.size:=l_ hT0 hbr.size
           have hw2:IntKind.i64.wrap ((k:Int)+1)=(k:Int)+1:=by simp[IntKind.wrap,IntKind.bits,IntKind.signed];omega
           have hw3:IntKind.i64.wrap ((k:Int)+1+(tn:Int))=(k:Int)+1+(tn:Int):=by simp[IntKind.wrap,IntKind.bits,IntKind.signed];omega
           have hw4:IntKind.i64.wrap (a+(k:Int)+1)=a+(k:Int)+1:=by simp[IntKind.wrap,IntKind.bits,IntKind.signed];omega
           have hw5:IntKind.i64.wrap (a+(k:Int)+1+(tn:Int))=a+(k:Int)+1+(tn:Int):=by simp[IntKind.wrap,IntKind.bits,IntKind.signed];omega
           have hw6:IntKind.i64.wrap ((k:Int)+1+(tn:Int)+(ln:Int))=(k:Int)+1+(tn:Int)+(ln:Int):=by simp[IntKind.wrap,IntKind.bits,IntKind.signed];omega
           have HBN:Hid (0<=a/\a+ss.length<=800000/\l8+(ss.length-(k+1))<=800000/\l9+(ss.length-(k+1))<=800000/\ss.length<=n+1):=⟨ha,hl3,by omega,by omega,hn⟩
           clear y0 y1 y2 y3 hq8 hq9 p1 p2 p3 p4 hm1 hm2 hl1 hl2 hl3 ha hn he1 hf1 hbc1 hbc2 htn hln hrl hbr hMs
           go_upto_region 17 with fail
           go_cut [4,15,16] from 17 to 169 (λtv ev sv W=>ev=.int .i64 (blkE t ((ss.drop (k+1)).take tn) (a+k+1) (scp s sc1) (scp s tk1)).1/\sv=.int .i64 (blkE t ((ss.drop (k+1)).take tn) (a+k+1) (scp s sc1) (scp s tk1)).2.1/\Strs W tv (blkE t ((ss.drop (k+1)).take tn) (a+k+1) (scp s sc1) (scp s tk1)).2.2/\Bl wc W)
           case first=>as_aux_lemma=>
            go_region_held3 (λW=>W.cell? ⟨w.heap.size,0,none⟩=some (.slice ag t.globals.length cg)/\W.cell? ⟨w.heap.size,1,none⟩=some (.slice af t.funcs.length cf)/\W.cell? ⟨M,4,none⟩=some (.int .i64 tn)) (go_simp)
             (first
             | ((with_reducible refine Calls.mono HI5.o ?_);rintro e w4 ⟨vt4,rfl,ht4,hb4⟩;have hcc0:w4.cell? ⟨w.heap.size,0,none⟩=some (.slice ag t.globals.length cg):=(hb4.cell (p:=⟨w.heap.size,0,none⟩) hT0c).trans x0;have hcc1:w4.cell? ⟨w.heap.size,1,none⟩=some (.slice af t.funcs.length cf):=(hb4.cell (p:=⟨w.heap.size,1,none⟩) hT0c).trans x1;have hcc4:w4.cell? ⟨M,4,none⟩=some (.int .i64 tn):=(hb4.cell (p:=⟨M,4,none⟩) (HBx.o wc hb2).2.2.2.1).trans y4))
            go_wp2
            go_meet
            case rel=>exact⟨rfl,rfl,ht4,(r_.drew).trans hb4⟩
           case rest=>
            obtain⟨rfl,rfl,hst,hb3⟩:=hcut
            obtain⟨X,hX⟩ : ∃X,X=blkE t ((ss.drop (k+1)).take tn) (a+k+1) (scp s sc1) (scp s tk1):=⟨_,rfl⟩
            rw[<-hX] at hst ⊢
            have HX:Hid (X=blkE t ((ss.drop (k+1)).take s.thn.toNat) (a+k+1) (scp s sc1) (scp s tk1)):=by show _=_;rw[HTN.o.1];exact hX
            have HXl:Hid (X.2.2.length<=l9+tn):=by
             have h1:=blkE_len t _ ((ss.drop (k+1)).take tn) (a+k+1) (scp s sc1) (scp s tk1) n_
             rw[<-hX,<-HL9.o] at h1
             simp at h1
             show _<=_
             omega
            clear hX HI5 hr5 HS5 HF1 HTk2 y4 y5 x0 x1
            have HSt:=hide hst
            obtain⟨a7,c7,rfl⟩:=hst.shape
            have hb2n:=hb2.trans (hb3.mono hb2.size)
            have HSc3:Hid (Strs wc (.slice a8 l8 c8) (scp s sc1)):=HSv.o.below hb3
            clear hst hb2 hb3 HSv HWd hT0c
            obtain⟨l7,hl7⟩ : ∃l7,l7=X.2.2.length:=⟨_,rfl⟩
            rw[<-hl7] at HSt ⊢
            have HL7:=hide hl7
            clear hl7
            by_cases hX1:X.1=0
            ·have HX1:=hide hX1
             rw[hX1]
             have HWd:=HWw.o wc hb2n
             have HI6:Hid (Calls prog 91 #[.agg #[.slice ag t.globals.length cg,.slice af t.funcs.length cf],.slice a6 ln k6,.int .i64 (a+k+1+tn),.slice a8 l8 c8,.slice a7 l7 c7] wc.drew λe w'=>∃vt',e=.returned (.tuple #[.int .i64 (blkE t (((ss.drop (k+1)).take (tn+ln)).drop tn) (a+k+1+tn) (scp s sc1) X.2.2).1,.int .i64 (blkE t (((ss.drop (k+1)).take (tn+ln)).drop tn) (a+k+1+tn) (scp s sc1) X.2.2).2.1,vt'])/\Strs w' vt' (blkE t (((ss.drop (k+1)).take (tn+ln)).drop tn) (a+k+1+tn) (scp s sc1) X.2.2).2.2/\Bl wc.drew w'):=by
              have hwd:Bl wc wc.drew:=r_.drew
              have e8:=HL8.o
              have e7:=HL7.o
              have hxl:=HXl.o
              have hbn:=HBN.o
              have hlen:(((ss.drop (k+1)).take (tn+ln)).drop tn).length=ln:=by simp;omega
              exact IH.out t _ _ _ _ _ _ (a+k+1+tn) (scp s sc1) X.2.2 wc.drew o_ (HT.o.below (HWd.drew)) (HS6.o.below HWd.drew) HF2.o (λx hx=>HSm.o x (List.mem_of_mem_drop (List.mem_of_mem_take (List.mem_of_mem_drop hx)))) (HSc3.o.below hwd) (HSt.o.below hwd) hgl hfl o_ o_ o_ o_
             obtain⟨⟨-,-,-,-,y4,y5⟩,x0,x1,hMs,hbr⟩:=HBx.o wc hb2n
             rw[HTE.o.1] at y4
             rw[HTE.o.2] at y5
             have hT0c:w.heap.size<wc.heap.size:=l_ hT0 hbr.size
             clear hX1 hbr HWd
             go_upto_region 19 with fail
             go_cut [4,15,16] from 17 to 169 (λtv ev sv W=>ev=.int .i64 (blkE t (((ss.drop (k+1)).take (tn+ln)).drop tn) (a+k+1+tn) (scp s sc1) X.2.2).1/\sv=.int .i64 (blkE t (((ss.drop (k+1)).take (tn+ln)).drop tn) (a+k+1+tn) (scp s sc1) X.2.2).2.1/\Strs W tv (blkE t (((ss.drop (k+1)).take (tn+ln)).drop tn) (a+k+1+tn) (scp s sc1) X.2.2).2.2/\Bl wc W)
             case first=>as_aux_lemma=>
              go_region_held3 (λW=>W.cell? ⟨w.heap.size,0,none⟩=some (.slice ag t.globals.length cg)/\W.cell? ⟨w.heap.size,1,none⟩=some (.slice af t.funcs.length cf)/\W.cell? ⟨M,4,none⟩=some (.int .i64 tn)/\W.cell? ⟨M,5,none⟩=some (.int .i64 ln)) (go_simp)
               (first
               | ((with_reducible refine Calls.mono HI6.o ?_);rintro e w4 ⟨vt4,rfl,ht4,hb4⟩;have hcc0:w4.cell? ⟨w.heap.size,0,none⟩=some (.slice ag t.globals.length cg):=(hb4.cell (p:=⟨w.heap.size,0,none⟩) hT0c).trans x0;have hcc1:w4.cell? ⟨w.heap.size,1,none⟩=some (.slice af t.funcs.length cf):=(hb4.cell (p:=⟨w.heap.size,1,none⟩) hT0c).trans x1;have hcc4:w4.cell? ⟨M,4,none⟩=some (.int .i64 tn):=(hb4.cell (p:=⟨M,4,none⟩) hMs).trans y4;have hcc5:w4.cell? ⟨M,5,none⟩=some (.int .i64 ln):=(hb4.cell (p:=⟨M,5,none⟩) hMs).trans y5))
              go_wp2
              go_meet
              case rel=>exact⟨rfl,rfl,ht4,(r_.drew).trans hb4⟩
             case rest=>
              obtain⟨rfl,rfl,hst,hb3⟩:=hcut
              obtain⟨Y,hY⟩ : ∃Y,Y=blkE t (((ss.drop (k+1)).take (tn+ln)).drop tn) (a+k+1+tn) (scp s sc1) X.2.2:=⟨_,rfl⟩
              rw[<-hY] at hst ⊢
              have HY:Hid (Y=blkE t (((ss.drop (k+1)).drop s.thn.toNat).take s.els.toNat) (a+k+1+s.thn) (scp s sc1) X.2.2):=by show _=_;rw[HTN.o.1,HTN.o.2,HTE.o.1,<-drop_take_2];exact hY
              have HYl:Hid (Y.2.2.length<=l7+ln):=by
               have h1:=blkE_len t _ (((ss.drop (k+1)).take (tn+ln)).drop tn) (a+k+1+tn) (scp s sc1) X.2.2 n_
               rw[<-hY,<-HL7.o] at h1
               simp at h1
               show _<=_
               omega
              clear hY HI6 hr6 HS6 HF2 HSt y4 y5 x0 x1
              have HSt:=hide hst
              obtain⟨a7,c7,rfl⟩:=hst.shape
              have hb2m:=hb2n.trans (hb3.mono hb2n.size)
              have HSc4:Hid (Strs wc (.slice a8 l8 c8) (scp s sc1)):=HSc3.o.below hb3
              clear hst hb2n hb3 HSc3 hT0c hMs
              by_cases hY1:Y.1=0
              ·have HRn:Hid (RES=blkE t (ss.drop (k+1+tn+ln)) (a+((k+1+tn+ln:Nat):Int)) (scp s sc1) Y.2.2):=by
                have h1:=blkE_next (r:=ss.drop (k+1)) (a:=a+k) (tk1:=X.2.2) (tk2:=Y.2.2) HS0.o (by rw[<-HX.o];exact HX1.o) (by rw[<-HX.o]) (by rw[<-HY.o];exact hY1) (by rw[<-HY.o])
                rw[HTN.o.1,HTN.o.2,HTE.o.1,HTE.o.2,List.drop_drop] at h1
                show _=_
                rw[HR2.o,h1]
                congr 1
                ·congr 1;omega
                ·omega
               have HF3n:Hid (fitB (ss.drop (k+1+tn+ln))=true):=by
                have h1:=HF3.o
                rw[List.drop_drop] at h1
                have e:k+1+(tn+ln)=k+1+tn+ln:=by omega
                rw[e] at h1
                exact h1
               rw[hY1]
               obtain⟨⟨-,-,-,-,y4,y5⟩,-⟩:=HBx.o wc hb2m
               rw[HTE.o.1] at y4
               rw[HTE.o.2] at y5
               clear hY1
               go_wp2
               go_roundg (ss.length-(k+1+tn+ln))
               case measure=>omega
               case rel=>
                have e8:=HL8.o
                have e7:=HL7.o
                have hyl:=HYl.o
                have hxl:=HXl.o
                have hbn:=HBN.o
                exact⟨k+1+tn+ln,scp s sc1,Y.2.2,rfl,hlln,by simp,HSc4.o,HSt.o,HRn.o,HF3n.o,by omega,by omega,by
                 have h1:=HBw.o
                 have h2:=(HBx.o wc hb2m).2.2.2.2
                 exact h1.trans (h2.mono (by have:=h1.size;simpa using this))⟩
              ·have HE:Hid (RES=Y):=by
                have h3:=blkE_else (r:=ss.drop (k+1)) (a:=a+k) (tk1:=X.2.2) HS0.o (by rw[<-HX.o];exact HX1.o) (by rw[<-HX.o]) (by rw[<-HY.o];exact hY1)
                show RES=Y
                rw[HR2.o,h3,<-HY.o]
               have b1:(Y.1 == 0)=false:=by simpa using hY1
               go_wp2_with fail
               refine bodyPost_ret (v:=.tuple #[.int .i64 Y.1,.int .i64 Y.2.1,.slice a7 Y.2.2.length c7]) (by simp[results,results91,go_sem]) rfl ⟨_,by rw[HE.o],by rw[HE.o];exact HSt.o,HWw.o wc hb2m⟩
            ·have HE:Hid (RES=X):=by
              have h3:=blkE_then (r:=ss.drop (k+1)) (a:=a+k) HS0.o (by rw[<-HX.o];exact hX1)
              show RES=X
              rw[HR2.o,h3,<-HX.o]
             have b1:(X.1 == 0)=false:=by simpa using hX1
             go_wp2_with fail
             refine bodyPost_ret (v:=.tuple #[.int .i64 X.1,.int .i64 X.2.1,.slice a7 l7 c7]) (by simp[results,results91,go_sem]) rfl ⟨_,by rw[HE.o],by rw[HE.o];exact HSt.o,HWw.o wc hb2n⟩
         ·have HE:Hid (RES=(z4,a+k,tk1)):=by
           have h3:=HZ4.o
           show _=_
           rw[HR2.o,blkE_bad (by rw[<-h3];exact h4),<-h3]
          have b1:(z4 == 0)=false:=by simpa using h4
          go_wp2_with fail
          refine bodyPost_ret (v:=.tuple #[.int .i64 z4,.int .i64 (a+k),.slice at1 tk1.length ct1]) (by simp[results,results91,go_sem]) rfl ⟨_,by rw[HE.o],by rw[HE.o];exact (HTv.o wc hb2).2.2,HWw.o wc hb2⟩
      ·have HE:Hid (RES=(z2,a+k,tk1)):=by
        have h1:=HZ2.o
        have h3:stmtE t sc1 tk1 s=z2:=by rw[stmtE_expr (by rw[<-h1];exact h0),<-h1]
        show _=_
        rw[HR2.o,blkE_bad (by rw[h3];exact h0),h3]
       have b1:(z2 == 0)=false:=by simpa using h0
       clear hb7
       go_wp2_with fail
       refine bodyPost_ret (v:=.tuple #[.int .i64 z2,.int .i64 (a+k),.slice at1 tk1.length ct1]) (by simp[results,results91,go_sem]) rfl ⟨_,by rw[HE.o],by rw[HE.o];exact (HTv.o wc hb2).2.2,HWw.o wc hb2⟩
  ·have HN:Hid (RES=(0,0,tk1)):=by
    show _=_
    rw[HR1.o,List.drop_of_length_le o_,blkE_nil]
   clear hB
   go_wp2_with fail
   refine bodyPost_ret (v:=.tuple #[.int .i64 0,.int .i64 0,.slice at1 tk1.length ct1]) (by simp[results,results91,go_sem]) rfl ⟨_,by rw[HN.o],by rw[HN.o];exact HT1.o,hBw⟩
end Go.Proofs.YtffnkkpmlplfeaaGreatDoor
