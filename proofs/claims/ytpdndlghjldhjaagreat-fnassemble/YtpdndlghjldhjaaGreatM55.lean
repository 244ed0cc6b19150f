import Derived.Test.YtpdndlghjldhjaaGreatM32
import Derived.Test.YtpdndlghjldhjaaGreatM54
import Derived.Test.YtpdndlghjldhjaaGreatM41
import Derived.Deep.CutRange
import Derived.Test.YtpdndlghjldhjaaGreatM17
import Derived.BigQuiet
namespace Go.Proofs.YtpdndlghjldhjaaGreat
set_option linter.unusedVariables false
set_option linter.unusedSimpArgs false
set_option maxRecDepth 100000
set_option maxHeartbeats 16000000
section
open Go.RowKit
set_option linter.unusedSectionVars false
variable [Inhabited Pick]
theorem td_shape {S:Nat->Prop} {w:World} {vg vf:Value} {t:Tr} (h:TD S w vg vf t) : ∃ga gn gc fa fn fc,vg = .slice ga gn gc/\vf = .slice fa fn fc:=by
 obtain ⟨ga,gc,e,-⟩:=h.gs w (Tcs.refl _ _)
 obtain ⟨fb,foff,fc,Q,ef,-⟩:=h.fs
 exact ⟨_,_,_,_,_,_,e,ef⟩
theorem TD.small {S:Nat->Prop} {w:World} {vg vf:Value} {t:Tr} (h:TD S w vg vf t):smallT t/\wfT t:=by
 refine ⟨⟨by have:=h.gl;omega,by have:=h.fl;omega,fun f hf => ?_⟩,⟨⟨by have:=h.gl;omega,fun x hx=>by have:=h.gn x hx;omega⟩,⟨by have:=h.fl;omega,fun f hf => ?_⟩⟩⟩
 ·have k:=h.ok f hf
  refine ⟨by have:=k.pl;omega,by have:=k.bu;omega,fun s hs => ?_⟩
  obtain ⟨h1,h2,-⟩:=k.st s hs
  exact ⟨by have:=h1.1;omega,by have:=h2.1;omega⟩
 ·have k:=h.ok f hf
  refine ⟨by have:=k.nm;omega,⟨by have:=k.pl;omega,fun p hp=>by have:=k.pn p hp;omega⟩,⟨by have:=k.bu;omega,fun s hs => ?_⟩⟩
  obtain ⟨h1,h2,h3⟩:=k.st s hs
  exact ⟨by omega,⟨by have:=h1.1;omega,fun n hn=>by have:=h1.2 n hn;omega⟩,⟨by have:=h2.1;omega,fun n hn=>by have:=h2.2 n hn;omega⟩⟩
def DI (g:Nat) (a:Option Addr) (len cap B:Nat) (w0 w:World) (v:Value) (its:List It) (m:Nat):Prop:=GRow B w v its/\Lk 20 its/\its.length<=m/\Dr g a len cap (S0 g) w0 w
theorem DI.dr {g:Nat} {a:Option Addr} {len cap:Nat} {w0 w w':World} {v:Value} {its:List It} {m:Nat} (h:DI g a len cap w0.heap.size w0 w v its m) (hd:Dr g a len cap (S0 g) w w') (hg:g<w0.heap.size):DI g a len cap w0.heap.size w0 w' v its m:=
 ⟨own_tcs h.1 hd.tcs (fun k hk=>by have e:k=g:=hk;omega),h.2.1,h.2.2.1,h.2.2.2.trans hd⟩
theorem DI.app {g:Nat} {a:Option Addr} {len cap:Nat} {w0 w:World} {v:Value} {its:List It} {m:Nat} (h:DI g a len cap w0.heap.size w0 w v its m) (hL:Lo g a len (S0 g) w0.heap.size) (kd op rd s1 s2 im lb:Int) (ty:TypeId) (hm:m<=100000) (hlb : -1<=lb/\lb<=20) :
  ∃va vn vc w',(Builtin.append_ #[23,23] ty #[v,.slice (some ⟨w.heap.size,0,none⟩) 1 1]).run Tryz.prog (w.alloc (.cells #[.int .i64 kd,.int .i64 op,.int .i64 rd,.int .i64 s1,.int .i64 s2,.int .i64 im,.int .i64 lb] 31)) = .ok (.slice va vn vc) w'/\∃x,DI g a len cap w0.heap.size w0 w' (.slice va vn vc) (its++[x]) (m+1):=by
 obtain ⟨h1,h2,h3,h4⟩:=h
 obtain ⟨va,vn,vc,w',r1,r2,r3⟩:=it_app kd op rd s1 s2 im lb ty h1 h4.tcs.size (by omega)
 exact ⟨va,vn,vc,w',r1,_,r2,h2.snoc hlb,by simp;omega,h4.new hL r3 (it_blk h1)⟩
theorem DI.oth {g:Nat} {a:Option Addr} {len cap Q:Nat} {w0 w w':World} {v:Value} {its:List It} {m:Nat} (h:DI g a len cap w0.heap.size w0 w v its m) (hL:Lo g a len (S0 g) w0.heap.size) (ht:Tcs (fun k=>k=Q) w w') (hQ:w0.heap.size<=Q) (hne:v.ownBlock≠some Q):DI g a len cap w0.heap.size w0 w' v its m:=by
 obtain ⟨h1,h2,h3,h4⟩:=h
 refine ⟨?_,h2,h3,h4.new hL ht (fun k hk=>by omega)⟩
 obtain ⟨g1,g2⟩:=h1
 refine ⟨g1,?_⟩
 rcases g2 with g2 | ⟨b,cap,cur,rfl,g3,g4,g5⟩
 ·exact .inl g2
 ·refine .inr ⟨b,cap,cur,rfl,g3,?_,g5⟩
  rw [ht.block b (Array.getElem?_eq_some_iff.1 g4).1 (fun e=>hne (by rw [<-e];rfl))]
  exact g4
theorem Lk.up {M M':Int} {l:List It} (h:Lk M l) (hM:M<=M'):Lk M' l:=fun x hx=>by have:=h x hx;omega
theorem DI.put {g:Nat} {a:Option Addr} {len cap:Nat} {w0 w:World} {v:Value} {its:List It} {m j:Nat} (h:DI g a len cap w0.heap.size w0 w v its m) (hL:Lo g a len (S0 g) w0.heap.size) (hj:j<its.length) :
  ∃gb c x,v = .slice (some ⟨gb,0,none⟩) its.length c/\(-1<=x.label/\x.label<=20)/\(∀i,i<7->w.cell? ⟨gb,j*7+i,none⟩=(cellsI x)[i]? /\ w.frozen? ⟨gb,j*7+i,none⟩=false) /\
   ∀i y u,i<7->cellsI y=(cellsI x).set i u->(-1<=y.label/\y.label<=21)->∃its',Items (w.setCell ⟨gb,j*7+i,none⟩ u) v its'/\Lk 1000000 its'/\its'.length<=m/\Dr g a len cap (S0 g) w0 (w.setCell ⟨gb,j*7+i,none⟩ u):=by
 obtain ⟨h1,h2,h3,h4⟩:=h
 obtain ⟨gb,c,hv,hB,hc,hp⟩:=it_pos h1 (by omega)
 refine ⟨gb,c,its[j],hv,h2 _ (List.getElem_mem hj),fun i hi=>by have:=hc j i hj hi;rw [Nat.zero_add] at this;exact this,fun i y u hi hy hl => ?_⟩
 obtain ⟨r1,r2⟩:=hp j i y hj hi u hy
 rw [Nat.zero_add] at r1 r2
 exact ⟨its.set j y,r1.items,(h2.up (by omega)).set j y (by omega),by simpa using h3,h4.new hL r2 (fun k hk=>by omega)⟩
theorem box_again {w:World} {Q:Nat} {xs:List Value} (h:FrC w Q xs) (hx:xs.length=7) (y0 y1 y2 y3 y4 y5 y6:Value) :
  ∃W,W=((((((w.setCell ⟨Q,0,none⟩ y0).setCell ⟨Q,1,none⟩ y1).setCell ⟨Q,2,none⟩ y2).setCell ⟨Q,3,none⟩ y3).setCell ⟨Q,4,none⟩ y4).setCell ⟨Q,5,none⟩ y5).setCell ⟨Q,6,none⟩ y6/\FrC W Q [y0,y1,y2,y3,y4,y5,y6]/\Tcs (fun k=>k=Q) w W:=by
 refine ⟨_,rfl,?_,?_⟩
 ·have:=((((((h.set 0 y0).set 1 y1).set 2 y2).set 3 y3).set 4 y4).set 5 y5).set 6 y6
  match xs,hx with
  | [_,_,_,_,_,_,_],_=>exact this
 ·have t : ∀ {w':World} (i:Nat) (y:Value),Tcs (fun k=>k=Q) w w'->Tcs (fun k=>k=Q) w (w'.setCell ⟨Q,i,none⟩ y):=fun i y h=>h.setCell (p:=⟨Q,i,none⟩) rfl y
  exact t 6 _ (t 5 _ (t 4 _ (t 3 _ (t 2 _ (t 1 _ (t 0 _ (Tcs.refl _ _)))))))
theorem draw_asm (a:Option Addr) (len cap:Nat) (w:World) (hl:len<=1048576) (hb:B8 w a len) :
  Calls Tryz.prog 4 #[.slice a len cap] w fun e w'=>∃v its,e = .returned v/\Items w' v its/\Lk 1000000 its/\its.length<=4000000/\Below w.heap.size w w':=by
 have HB8:=hide hb
 clear hb
 go_enter Tryz.func4,Tryz.ntmps4
 go_wp2_with fail
 refine (new_any a len cap w hl HB8.out).mono ?_
 rintro e w1 ⟨rfl,hc1,hb1,hs1,hlo1⟩
 obtain ⟨g,hg⟩ : ∃g,g=w.heap.size:=⟨_,rfl⟩
 rw [<-hg] at hc1 hlo1 hs1 ⊢
 have hS0:S0 g g:=rfl
 have HG:=hide hg
 have HC1:=hide hc1
 have HL1:=hide hlo1
 have hg1:g<w1.heap.size:=by omega
 have HB1:=hide hb1
 have hBg : ∀k,S0 g k->w.heap.size<=k:=fun k hk=>by have e:k=g:=hk;have:=HG.out;omega
 clear hg hc1 hlo1 hs1 hb1 HB8
 go_wp2_with fail
 refine (once_any g a len cap (S0 g) _ _ hl hS0 HC1.out (by omega)).mono ?_
 rintro e w2 ⟨x,rfl,hd2⟩
 have HD2:=hide hd2
 clear hd2
 cases x
 ·obtain ⟨B,hB⟩ : ∃B,B=w2.heap.size:=⟨_,rfl⟩
  have HI2:Hid (DI g a len cap w1.heap.size w1 (w2.alloc (.cells #[] 31)) (.slice (some ⟨B,0,none⟩) 0 0) [] 0):=by
   rw [hB]
   exact ⟨it_lit w2 _ HD2.out.tcs.size,by simp [Lk],by simp,HD2.out.alloc _⟩
  have HBq:=hide hB
  go_wp2_with fail
  rw [<-HBq.out]
  refine (below_any g a len cap (S0 g) _ _ hl hS0 HI2.out.2.2.2.cur (by omega)).mono ?_
  rintro e w3 ⟨n,rfl,hn,hd3⟩
  have HI3:=hide (HI2.out.dr hd3 hg1)
  obtain ⟨z,hz⟩ : ∃z:Int,z=1+n:=⟨_,rfl⟩
  have hw:IntKind.i64.wrap (1+n)=z:=by rw [IntKind.wrap_i64];omega
  have hz1:1<=z:=by omega
  have hz2:z<=8:=by omega
  clear hd3 HI2 hB HBq
  go_wp2_with fail
  go_loopw [4,6] (fun ov i wr=>∃(k:Nat) (its:List It),(k:Int)<=z/\i = .int .i64 k/\(∃va vn vc,ov = .slice va vn vc)/\k<=its.length/\DI g a len cap w1.heap.size w1 wr ov its (1040*k)) (fun _ i _=>z.toNat-(RowKit.intOf i).toNat)
  case atStart=>exact ⟨0,[],by omega,rfl,⟨_,_,_,rfl⟩,by simp,HI3.out⟩
  case round=>
   obtain ⟨k,its,hk,rfl,⟨va,vn,vc,rfl⟩,hki,hi⟩:=hrel
   have HI:=hide hi
   have HK:=hide hki
   clear hi hki HI3
   by_cases hlt:(k:Int)<z
   ·obtain ⟨ua,un,uc,w4,hr,ux,hi4⟩:=HI.out.app HL1.out 2 0 0 0 0 0 k 23 (by omega) (by omega)
    have HR:=hide hr
    have HI4:=hide hi4
    have HK4:Hid (k+1<=(its++[ux]).length):=by have:=HK.out;show _<=_;simp;omega
    generalize its++[ux]=its4 at HI4 HK4
    clear hr hi4 HI HK
    go_wp2_with (at_builtin;refine wpList_appG rfl _ _ _ rfl _ _ _ _ rfl rfl HR.out ?_)
    refine (below_any g a len cap (S0 g) _ _ hl hS0 HI4.out.2.2.2.cur (by omega)).mono ?_
    rintro e w5 ⟨p5,rfl,hp5,hd5⟩
    have HI5:=hide (HI4.out.dr hd5 hg1)
    clear hd5 HI4 HR
    go_wp2_with fail
    refine (once_any g a len cap (S0 g) _ _ hl hS0 HI5.out.2.2.2.cur (by omega)).mono ?_
    rintro e w6 ⟨q6,rfl,hd6⟩
    have HI6:=hide (HI5.out.dr hd6 hg1)
    clear hd6 HI5
    go_upto_if 36 with fail
    go_cut [7] from 23 to 72 (fun pv W=>∃p:Int,pv = .int .i64 p/\(0<=p/\p<=1031)/\DI g a len cap w1.heap.size w1 W (.slice ua un uc) its4 (1040*k+1))
    case first=>
     cases q6
     ·go_wp2_with fail
      go_meet
      case rel=>exact ⟨_,rfl,by omega,HI6.out⟩
     ·go_wp2_with fail
      refine (below_any g a len cap (S0 g) _ _ hl hS0 HI6.out.2.2.2.cur (by omega)).mono ?_
      rintro e w7 ⟨p7,rfl,hp7,hd7⟩
      have HI7:=hide (HI6.out.dr hd7 hg1)
      have hw7:IntKind.i64.wrap (1015+p7)=1015+p7:=by rw [IntKind.wrap_i64];omega
      clear hd7 HI6
      go_wp2_with fail
      go_meet
      case rel=>exact ⟨1015+p7,by simp [hw7],by omega,HI7.out⟩
    case rest=>
     obtain ⟨p,rfl,hp,hi⟩:=hcut
     have HI8:=hide hi
     clear hi HI6
     go_wp2_with fail
     go_loopw [4,8] (fun ov jv wr=>∃(j:Nat) (it:List It),(j:Int)<=p/\jv = .int .i64 j/\(∃va vn vc,ov = .slice va vn vc)/\k+1<=it.length/\DI g a len cap w1.heap.size w1 wr ov it (1040*k+1+j)) (fun _ jv _=>p.toNat-(RowKit.intOf jv).toNat)
     case atStart=>exact ⟨0,its4,by omega,rfl,⟨_,_,_,rfl⟩,HK4.out,HI8.out⟩
     case round=>
      clear HI8 HK4
      obtain ⟨j,it,hj,rfl,⟨ya,yn,yc,rfl⟩,hki,hi⟩:=hrel
      have HI:=hide hi
      have HK:=hide hki
      clear hi hki
      by_cases hlt2:(j:Int)<p
      ·have hmd:(j:Int).tmod 32=(j:Int) % 32:=Int.tmod_eq_emod_of_nonneg (by omega)
       obtain ⟨ta,tn,tc,w9,hr,ux,hi9⟩:=HI.out.app HL1.out 1 12 ((j:Int) % 32) 0 0 0 0 23 (by omega) (by omega)
       have HR:=hide hr
       have HI9:=hide hi9
       have HK9:Hid (k+1<=(it++[ux]).length):=by have:=HK.out;show _<=_;simp;omega
       generalize it++[ux]=it9 at HI9 HK9
       clear hr hi9 HI HK
       go_wp2_with (at_builtin;refine wpList_appG rfl _ _ _ rfl _ _ _ _ rfl rfl HR.out ?_)
       go_roundw
       case rel=>exact ⟨j+1,it9,by omega,by go_num,⟨_,_,_,rfl⟩,HK9.out,HI9.out⟩
       case measure=>simp [RowKit.intOf];omega
      ·have HI9:Hid (DI g a len cap w1.heap.size w1 wr (.slice ya yn yc) it (1040*k+1+1031)):=⟨HI.out.1,HI.out.2.1,by have:=HI.out.2.2.1;omega,HI.out.2.2.2⟩
       clear HI
       go_wp2_with fail
       refine (below_any g a len cap (S0 g) _ _ hl hS0 HI9.out.2.2.2.cur (by omega)).mono ?_
       rintro e w10 ⟨p10,rfl,hp10,hd10⟩
       have HI10:=hide (HI9.out.dr hd10 hg1)
       clear hd10 HI9
       go_wp2_with fail
       refine (below_any g a len cap (S0 g) _ _ hl hS0 HI10.out.2.2.2.cur (by omega)).mono ?_
       rintro e w11 ⟨p11,rfl,hp11,hd11⟩
       have HI11:=hide (HI10.out.dr hd11 hg1)
       have hw10:IntKind.i64.wrap (4+p10)=4+p10:=by rw [IntKind.wrap_i64];omega
       clear hd11 HI10
       obtain ⟨Q,hQ⟩ : ∃Q,Q=w11.heap.size:=⟨_,rfl⟩
       obtain ⟨W,hW⟩ : ∃W,W=w11.alloc (.cells #[.int .i64 3,.int .i64 (4+p10),.int .i64 0,.int .i64 5,.int .i64 0,.int .i64 0,.int .i64 p11] 31):=⟨_,rfl⟩
       have hfr:FrC W Q [.int .i64 3,.int .i64 (4+p10),.int .i64 0,.int .i64 5,.int .i64 0,.int .i64 0,.int .i64 p11]:=by rw [hW,hQ];exact box_fr w11 _ _ (by simp)
       have HIW:Hid (DI g a len cap w1.heap.size w1 W (.slice ya yn yc) it (1040*k+1+1031)):=by rw [hW];exact HI11.out.dr ((Dr.refl HI11.out.2.2.2.cur).alloc _) hg1
       have hQ1:w1.heap.size<=Q:=by rw [hQ];exact HI11.out.2.2.2.tcs.size
       have hQ2:Q<W.heap.size:=by rw [hW,hQ];simp
       have hQg:Q≠g:=by omega
       have HNe:Hid ((Value.slice ya yn yc).ownBlock≠some Q):=fun e=>by have:=(World.ownsRow.lt HI11.out.1 Q e).2;omega
       have HFr:=hide hfr
       have HW:=hide hW
       have HQ:=hide hQ
       clear hfr hW hQ HI11
       go_upto_region 18 with fail
       rw [<-HW.out,<-HQ.out]
       clear HW
       go_wp2_with fail
       refine (once_any g a len cap (S0 g) _ _ hl hS0 HIW.out.2.2.2.cur (by omega)).mono ?_
       rintro e w12 ⟨q12,rfl,hd12⟩
       have HI12:=hide (HIW.out.dr hd12 hg1)
       have HF12:=hide (HFr.out.tcs hQ2 hd12.tcs (fun e=>hQg e))
       have hQ3:Q<w12.heap.size:=by have:=hd12.tcs.size;omega
       clear hd12 HIW HFr
       cases q12
       ·obtain ⟨ta,tn,tc,w16,hr,ux,hi16⟩:=HI12.out.app HL1.out 3 (4+p10) 0 5 0 0 p11 23 (by omega) (by omega)
        have HR:=hide hr
        have HI16:=hide hi16
        have HK16:Hid (k+1<=(it++[ux]).length):=by have:=HK.out;show _<=_;simp;omega
        generalize it++[ux]=it16 at HI16 HK16
        have c0:=(HF12.out 0 _ rfl).1
        have c1:=(HF12.out 1 _ rfl).1
        have c2:=(HF12.out 2 _ rfl).1
        have c3:=(HF12.out 3 _ rfl).1
        have c4:=(HF12.out 4 _ rfl).1
        have c5:=(HF12.out 5 _ rfl).1
        have c6:=(HF12.out 6 _ rfl).1
        clear hr hi16 HI12 HK
        go_wp2_with (at_builtin;refine wpList_appG rfl _ _ _ rfl _ _ _ _ rfl rfl HR.out ?_)
        go_roundw
        case rel=>exact ⟨k+1,it16,by omega,by go_num,⟨_,_,_,rfl⟩,HK16.out,HI16.out.1,HI16.out.2.1,by have:=HI16.out.2.2.1;omega,HI16.out.2.2.2⟩
        case measure=>simp [RowKit.intOf];omega
       ·go_wp2_with fail
        refine (below_any g a len cap (S0 g) _ _ hl hS0 HI12.out.2.2.2.cur (by omega)).mono ?_
        rintro e w13 ⟨p13,rfl,hp13,hd13⟩
        have HI13:=hide (HI12.out.dr hd13 hg1)
        have HF13:=hide (HF12.out.tcs hQ3 hd13.tcs (fun e=>hQg e))
        have hQ4:Q<w13.heap.size:=by have:=hd13.tcs.size;omega
        clear hd13 HI12 HF12
        go_wp2_with fail
        refine (below_any g a len cap (S0 g) _ _ hl hS0 HI13.out.2.2.2.cur (by omega)).mono ?_
        rintro e w14 ⟨p14,rfl,hp14,hd14⟩
        have HI14:=hide (HI13.out.dr hd14 hg1)
        have hf14:=HF13.out.tcs hQ4 hd14.tcs (fun e=>hQg e)
        have hw13:IntKind.i64.wrap (4+p13)=4+p13:=by rw [IntKind.wrap_i64];omega
        obtain ⟨W15,hW15,hF15,hT15⟩:=box_again hf14 rfl (.int .i64 (4+p13)) (.int .i64 0) (.int .i64 0) (.int .i64 0) (.int .i64 0) (.int .i64 0) (.int .i64 p14)
        have HI15:=hide (HI14.out.oth HL1.out hT15 hQ1 HNe.out)
        have HW15:=hide hW15
        obtain ⟨ta,tn,tc,w16,hr,ux,hi16⟩:=HI15.out.app HL1.out (4+p13) 0 0 0 0 0 p14 23 (by omega) (by omega)
        have HR:=hide hr
        have HI16:=hide hi16
        have HK16:Hid (k+1<=(it++[ux]).length):=by have:=HK.out;show _<=_;simp;omega
        generalize it++[ux]=it16 at HI16 HK16
        have d0:=(hf14 0 _ rfl).1
        have d1:=(hf14 1 _ rfl).1
        have d2:=(hf14 2 _ rfl).1
        have d3:=(hf14 3 _ rfl).1
        have d4:=(hf14 4 _ rfl).1
        have d5:=(hf14 5 _ rfl).1
        have d6:=(hf14 6 _ rfl).1
        have e0:=(hf14 0 _ rfl).2
        have e1:=(hf14 1 _ rfl).2
        have e2:=(hf14 2 _ rfl).2
        have e3:=(hf14 3 _ rfl).2
        have e4:=(hf14 4 _ rfl).2
        have e5:=(hf14 5 _ rfl).2
        have e6:=(hf14 6 _ rfl).2
        have c0:=(hF15 0 _ rfl).1
        have c1:=(hF15 1 _ rfl).1
        have c2:=(hF15 2 _ rfl).1
        have c3:=(hF15 3 _ rfl).1
        have c4:=(hF15 4 _ rfl).1
        have c5:=(hF15 5 _ rfl).1
        have c6:=(hF15 6 _ rfl).1
        clear hr hi16 HI14 HI15 HK hd14 hf14 hF15 hT15 hW15 HI13 HF13
        go_upto_region 20 with fail
        rw [<-HW15.out]
        clear HW15
        go_wp2_with (at_builtin;refine wpList_appG rfl _ _ _ rfl _ _ _ _ rfl rfl HR.out ?_)
        go_roundw
        case rel=>exact ⟨k+1,it16,by omega,by go_num,⟨_,_,_,rfl⟩,HK16.out,HI16.out.1,HI16.out.2.1,by have:=HI16.out.2.2.1;omega,HI16.out.2.2.2⟩
        case measure=>simp [RowKit.intOf];omega
   ·have HFin:=hide fun W (hW:Dr g a len cap (S0 g) w1 W)=>hW.tcs.below HB1.out HB1.out.size hBg
    have HI0:Hid (DI g a len cap w1.heap.size w1 wr (.slice va vn vc) its 8320):=⟨HI.out.1,HI.out.2.1,by have:=HI.out.2.2.1;omega,HI.out.2.2.2⟩
    have HLn:Hid (vn=its.length):=by
     obtain ⟨a',c',e⟩:=HI.out.1.shape
     simp only [Value.slice.injEq] at e
     exact e.2.1
    have hn1:1<=vn:=by rw [HLn.out];have:=HK.out;omega
    have hn2:vn<=8320:=by rw [HLn.out];exact HI0.out.2.2.1
    clear HI HK HB1 hBg hn
    go_wp2_with fail
    refine (below_any g a len cap (S0 g) _ _ hl hS0 HI0.out.2.2.2.cur (by omega)).mono ?_
    rintro e w4 ⟨kk,rfl,hkk,hd4⟩
    have HI4:=hide (HI0.out.dr hd4 hg1)
    clear hd4 HI0
    go_wp2_with fail
    refine (below_any g a len cap (S0 g) _ _ hl hS0 HI4.out.2.2.2.cur (by omega)).mono ?_
    rintro e w5 ⟨x5,rfl,hx5,hd5⟩
    have HI5:=hide (HI4.out.dr hd5 hg1)
    obtain ⟨j,rfl⟩ : ∃j:Nat,x5=j:=⟨x5.toNat,by omega⟩
    have hjn:j<vn:=by omega
    clear hd5 HI4 hx5
    by_cases k0:kk=0
    ·subst k0
     obtain ⟨gb,c,x,hv,hxl,hc,hp⟩:=HI5.out.put HL1.out (j:=j) (by rw [<-HLn.out];exact hjn)
     rw [<-HLn.out] at hv
     simp only [Value.slice.injEq,true_and] at hv
     obtain ⟨rfl,rfl⟩:=hv
     obtain ⟨c6,f6⟩:=hc 6 (by omega)
     obtain ⟨its',r1,r2,r3,r4⟩:=hp 6 {x with label:=x.label+1} (.int .i64 (x.label+1)) (by omega) rfl ⟨by show -1<=x.label+1;omega,by show x.label+1<=21;omega⟩
     have HE:=hide (And.intro r1 (And.intro r2 (And.intro r3 (HFin.out _ r4))))
     replace c6:w5.cell? ⟨gb,j*7+6,none⟩=some (.int .i64 x.label):=c6
     have hw6:IntKind.i64.wrap (x.label+1)=x.label+1:=by rw [IntKind.wrap_i64];omega
     generalize x.label=lb at c6 HE hw6 hxl
     clear hc hp r1 r2 r3 r4 HFin HI5
     go_wp2_with fail
     go_ret
     exact ⟨_,its',rfl,HE.out.1,HE.out.2.1,by have:=HE.out.2.2.1;omega,HE.out.2.2.2⟩
    by_cases k1:kk=1
    ·subst k1
     go_wp2_with fail
     refine (below_any g a len cap (S0 g) _ _ hl hS0 HI5.out.2.2.2.cur (by omega)).mono ?_
     rintro e w6 ⟨x6,rfl,hx6,hd6⟩
     obtain ⟨gb,c,x,hv,hxl,hc,hp⟩:=(HI5.out.dr hd6 hg1).put HL1.out (j:=j) (by rw [<-HLn.out];exact hjn)
     rw [<-HLn.out] at hv
     simp only [Value.slice.injEq,true_and] at hv
     obtain ⟨rfl,rfl⟩:=hv
     obtain ⟨c6,f6⟩:=hc 0 (by omega)
     obtain ⟨its',r1,r2,r3,r4⟩:=hp 0 {x with kind:=x6} (.int .i64 x6) (by omega) rfl ⟨by show -1<=x.label;omega,by show x.label<=21;omega⟩
     rw [Nat.add_zero] at f6 c6 r1 r4
     have HE:=hide (And.intro r1 (And.intro r2 (And.intro r3 (HFin.out _ r4))))
     replace c6:w6.cell? ⟨gb,j*7,none⟩=some (.int .i64 x.kind):=c6
     clear hc hp r1 r2 r3 r4 HFin HI5 hd6
     go_wp2_with fail
     go_ret
     exact ⟨_,its',rfl,HE.out.1,HE.out.2.1,by have:=HE.out.2.2.1;omega,HE.out.2.2.2⟩
    by_cases k2:kk=2
    ·subst k2
     obtain ⟨gb,c,x,hv,hxl,hc,hp⟩:=HI5.out.put HL1.out (j:=j) (by rw [<-HLn.out];exact hjn)
     rw [<-HLn.out] at hv
     simp only [Value.slice.injEq,true_and] at hv
     obtain ⟨rfl,rfl⟩:=hv
     obtain ⟨c6,f6⟩:=hc 5 (by omega)
     obtain ⟨its',r1,r2,r3,r4⟩:=hp 5 {x with ins := {x.ins with im:=2}} (.int .i64 2) (by omega) rfl ⟨by show -1<=x.label;omega,by show x.label<=21;omega⟩
     have HE:=hide (And.intro r1 (And.intro r2 (And.intro r3 (HFin.out _ r4))))
     replace c6:w5.cell? ⟨gb,j*7+5,none⟩=some (.int .i64 x.ins.im):=c6
     clear hc hp r1 r2 r3 r4 HFin HI5
     go_wp2_with fail
     go_ret
     exact ⟨_,its',rfl,HE.out.1,HE.out.2.1,by have:=HE.out.2.2.1;omega,HE.out.2.2.2⟩
    by_cases k3:kk=3
    ·subst k3
     have hw3:IntKind.i64.wrap (z+1)=z+1:=by rw [IntKind.wrap_i64];omega
     go_wp2_with fail
     refine (below_any g a len cap (S0 g) _ _ hl hS0 HI5.out.2.2.2.cur (by omega)).mono ?_
     rintro e w6 ⟨x6,rfl,hx6,hd6⟩
     obtain ⟨ta,tn,tc,w9,hr,ux,hi9⟩:=(HI5.out.dr hd6 hg1).app HL1.out 2 0 0 0 0 0 x6 23 (by omega) (by omega)
     have HR:=hide hr
     have HE:=hide (And.intro hi9.1.items (And.intro (hi9.2.1.up (M':=1000000) (by omega)) (And.intro hi9.2.2.1 (HFin.out _ hi9.2.2.2))))
     generalize its++[ux]=it9 at HE
     clear hr hi9 hd6 HI5 HFin
     go_wp2_with (at_builtin;refine wpList_appG rfl _ _ _ rfl _ _ _ _ rfl rfl HR.out ?_)
     go_ret
     exact ⟨_,it9,rfl,HE.out.1,HE.out.2.1,by have:=HE.out.2.2.1;omega,HE.out.2.2.2⟩
    have HE:=hide (And.intro HI5.out.1.items (And.intro (HI5.out.2.1.up (M':=1000000) (by omega)) (And.intro HI5.out.2.2.1 (HFin.out _ HI5.out.2.2.2))))
    clear HI5 HFin
    go_wp2_with fail
    go_ret
    exact ⟨_,its,rfl,HE.out.1,HE.out.2.1,by have:=HE.out.2.2.1;omega,HE.out.2.2.2⟩
 ·go_wp2_with fail
  refine (tree_any g a len cap w2 hl (HL1.out.mono HD2.out.tcs.size) HD2.out.cur).mono ?_
  rintro e w3 ⟨vg,vf,rfl,⟨t,ht⟩,hd3⟩
  obtain ⟨hsm,hwf⟩:=ht.small
  have HGG:=hide (genG_any t vg vf w3 hsm hwf (ht.gs _ (Tcs.refl _ _)) (ht.funcs _ (Tcs.refl _ _)))
  have HB3:Hid (Bl w w3):=(HD2.out.trans hd3).tcs.below HB1.out HB1.out.size hBg
  obtain ⟨ga,gn,gc,fa,fn,fc,rfl,rfl⟩:=td_shape ht
  have HLen:Hid ((genE t).length<=4000000):=genE_len t
  clear ht hd3 hsm hwf
  go_wp2_with fail
  refine HGG.out.mono ?_
  rintro e w4 ⟨v,rfl,hr,hb4⟩
  have HR:=hide hr.items
  have HLk:=hide (genE_lk t)
  obtain ⟨av,cv,hv⟩:=hr.shape
  obtain ⟨ln,hln⟩ : ∃ln,ln=(genE t).length:=⟨_,rfl⟩
  rw [<-hln] at hv
  subst hv
  have HBz:=hide (HB3.out.trans (hb4.mono HB3.out.size))
  clear hr hb4 hln HGG
  go_wp2_with fail
  go_ret
  exact ⟨_,genE t,rfl,HR.out,HLk.out,HLen.out,HBz.out⟩
end
section
open Go.RowKit
set_option linter.unusedSectionVars false
variable [Inhabited Pick]
theorem asmG_big (its : List It) (v : Value) (w : World) (hv : Items w v its) (h2 : 20000 < its.length) (h3 : its.length ≤ 9000000) :
  Calls Tryz.prog 6 #[v] w fun e w' => ∃ u r, e = .returned u ∧ AsmR its r ∧ Uc w' u r ∧ Below w.heap.size w w' := by
 have HR : Hid (AsmR its []) := .inr ⟨fun h => by omega, rfl⟩
 obtain ⟨av, cv, rfl, hcl, hcm, -⟩ := hv
 go_enter Tryz.func6, Tryz.ntmps6
 go_wp2_with fail
 go_ret
 exact ⟨_, [], rfl, HR.out, uc_out _ _ _, (Below.refl _ _).alloc (Nat.le_refl _) _⟩
theorem asmI_all (its : List It) (v : Value) (w : World) (hv : Items w v its) (hk : Lk 1000000 its) (h3 : its.length ≤ 4000000) :
  Calls Tryz.prog 5 #[v] w fun e w' => ∃ u r, e = .returned u ∧ AsmR its r ∧ URow w.heap.size w' u r ∧ Below w.heap.size w w' := by
 by_cases h2 : 20000 < its.length
 ·exact asmI_big its v w hv h2 (by omega)
 ·refine asmI_any its v w hv (fun i hi => ?_) (by omega)
  have := hk (its.getD i it0) (by rw [List.getD_eq_getElem?_getD, List.getElem?_eq_getElem hi]; exact List.getElem_mem hi)
  generalize (its.getD i it0).label = z at this
  simp [Lit.wf, IntKind.min, IntKind.max, IntKind.signed, IntKind.bits]
  omega
theorem asmG_all (its : List It) (v : Value) (w : World) (hv : Items w v its) (h3 : its.length ≤ 4000000) :
  Calls Tryz.prog 6 #[v] w fun e w' => ∃ u r, e = .returned u ∧ AsmR its r ∧ Uc w' u r ∧ Below w.heap.size w w' := by
 by_cases h2 : 20000 < its.length
 ·exact asmG_big its v w hv h2 (by omega)
 ·exact asmG_any its v w (by omega) hv
theorem AsmR.some {its : List It} {r : List Int} (h : AsmR its r) (h0 : 0 < r.length) : its.length ≤ 20000 ∧ goodAl its ∧ Linked its ∧ ∃ lg, Fin its lg ∧ plN its lg its.length ≤ 20000 ∧ r = codeK its lg its.length := by
 rcases h with ⟨a, b, c, lg, d, ⟨e, f⟩ | ⟨e, rfl⟩⟩ | ⟨-, rfl⟩
 ·exact ⟨a, b, c, lg, d, e, f⟩
 ·simp at h0
 ·simp at h0
theorem zeros_i64 (n : Nat) : (madeCells (Value.int .i64 0).cells n).toList = (List.replicate n (0 : Int)).map (Value.int .i64) := by
 have hc : (Value.int .i64 0).cells = #[.int .i64 0] := rfl
 rw [hc, List.map_replicate]
 apply List.ext_getElem?
 intro j
 by_cases hj : j < n
 ·simp [madeCells, Nat.mod_one, hj]
 ·simp [madeCells, Nat.mod_one, hj]
theorem IR.new (w : World) (B : Nat) (hB : B ≤ w.heap.size) : IR B (w.alloc (.cells #[] 2)) (.slice (some ⟨w.heap.size, 0, none⟩) 0 0) [] := World.ownsRow_lit w #[] 0 hB (by decide) rfl
theorem ls_start {B m : Nat} {w w4 : World} (hB : B = w.heap.size) (h : w4.ownsRow B 2 1 (.slice (some ⟨B, 0, none⟩) m m) m (madeCells (Value.int .i64 0).cells (m * 1)).toList) : LS B ((w4.alloc (.cells #[] 2)).alloc (.cells #[] 2)) (.slice (some ⟨B, 0, none⟩) m m) (.slice (some ⟨w4.heap.size, 0, none⟩) 0 0) (.slice (some ⟨w4.heap.size + 1, 0, none⟩) 0 0) (List.replicate m 0) [] [] := by
 rw [Nat.mul_one, zeros_i64] at h
 have hl : IR B w4 (.slice (some ⟨B, 0, none⟩) m m) (List.replicate m 0) := by
  unfold IR
  rw [List.length_replicate]
  exact h
 have h4 := (World.ownsRow.lt hl B rfl).2
 have e : (w4.alloc (.cells #[] 2)).heap.size = w4.heap.size + 1 := by simp
 have b1 := bel_a w4 (.cells #[] 2)
 have b2 := bel_a (w4.alloc (.cells #[] 2)) (.cells #[] 2)
 have h3 := IR.new (w4.alloc (.cells #[] 2)) B (by omega)
 rw [e] at h3
 refine ⟨ownB (ownB hl b1) b2, ownB (IR.new w4 B (by omega)) b2, h3, fun k hk e => ?_, fun k hk e => ?_, fun k hk e => ?_⟩
 all_goals simp only [Value.ownBlock, Option.some.injEq] at hk e; omega
theorem refs_no {its : List It} {lg : List Bool} {k : Nat} (h : (its.getD k it0).kind < 3) : refs its lg (k + 1) = refs its lg k := by
 simp only [refs]
 rw [if_neg (by omega), List.append_nil]
theorem refs_yes {its : List It} {lg : List Bool} {k : Nat} (h : 3 ≤ (its.getD k it0).kind) : refs its lg (k + 1) = refs its lg k ++ [((its.getD k it0).label, 4 * (plN its lg (tgt its k) : Int))] := by
 simp only [refs]
 rw [if_pos h]
theorem box_six {w : World} {Q : Nat} {xs : List Value} (h : FrC w Q xs) (hx : xs.length = 6) (y0 y1 y2 y3 y4 y5 : Value) :
  ∃ W, W = (((((w.setCell ⟨Q, 0, none⟩ y0).setCell ⟨Q, 1, none⟩ y1).setCell ⟨Q, 2, none⟩ y2).setCell ⟨Q, 3, none⟩ y3).setCell ⟨Q, 4, none⟩ y4).setCell ⟨Q, 5, none⟩ y5 ∧ FrC W Q [y0, y1, y2, y3, y4, y5] ∧ Tcs (fun k => k = Q) w W := by
 refine ⟨_, rfl, ?_, ?_⟩
 ·have := (((((h.set 0 y0).set 1 y1).set 2 y2).set 3 y3).set 4 y4).set 5 y5
  match xs, hx with
  | [_, _, _, _, _, _], _ => exact this
 ·have t : ∀ {w' : World} (i : Nat) (y : Value), Tcs (fun k => k = Q) w w' → Tcs (fun k => k = Q) w (w'.setCell ⟨Q, i, none⟩ y) := fun i y h => h.setCell (p := ⟨Q, i, none⟩) rfl y
  exact t 5 _ (t 4 _ (t 3 _ (t 2 _ (t 1 _ (t 0 _ (Tcs.refl _ _))))))
theorem x_box {B : Nat} {w : World} {vl vt vf : Value} {L ts fs : List Int} (h : LS B w vl vt vf L ts fs) (hB : B ≤ w.heap.size) (cs : Array Value) (t : TypeId) (hm : cs.size ≤ 1000) :
  ∃ P W, P = w.heap.size ∧ W = w.alloc (.cells cs t) ∧ FrC W P cs.toList ∧ Below w.heap.size w W ∧ LS B W vl vt vf L ts fs ∧ (vl.ownBlock ≠ some P ∧ vt.ownBlock ≠ some P ∧ vf.ownBlock ≠ some P) ∧ B ≤ P ∧ P < W.heap.size :=
 ⟨_, _, rfl, rfl, box_fr w cs t hm, bel_a _ _, h.below (bel_a _ _), ⟨fun e => by have := (World.ownsRow.lt h.l _ e).2; omega, fun e => by have := (World.ownsRow.lt h.t _ e).2; omega, fun e => by have := (World.ownsRow.lt h.f _ e).2; omega⟩, hB, by simp⟩
end
section
open Go.RowKit
set_option maxRecDepth 100000 in
set_option maxHeartbeats 8000000 in
theorem law_assemble (a : Option Addr) (len cap : Nat) (w : World) (hlen : len ≤ 9223372036854775807) (hb8 : len ≤ 1048576 → B8 w a len) :
  Calls Tryz.prog 3 #[.slice a len cap] w fun e w' => e = .returned (.bool true) ∧ Below w.heap.size w w' := by
 haveI : Inhabited Pick := ⟨⟨fun _ h => Classical.choice h⟩⟩
 by_cases hbig : 1048576 < len
 ·clear hb8
  go_enter Tryz.func3, Tryz.ntmps3
  go_wp2_with fail
  go_ret
  exact ⟨rfl, Below.refl _ _⟩
 have hl : len ≤ 1048576 := by omega
 have HB8 := hide (hb8 hl)
 obtain ⟨i2, hi2, hz20, hz21, hz22⟩ := info_parts info_i64S
 clear hb8 hbig
 go_enter Tryz.func3, Tryz.ntmps3
 go_wp2_with fail
 refine (draw_asm a len cap w hl HB8.out).mono ?_
 rintro e w1 ⟨v, its, rfl, hit, hlk, hil, hb1⟩
 have HLk := hide hlk
 have HIl := hide hil
 have HIt := hide hit
 obtain ⟨va, vc, hv, hvc, hvm, -⟩ := hit
 obtain ⟨n, hn⟩ : ∃ n, n = its.length := ⟨_, rfl⟩
 rw [← hn] at hv hvc
 have HN := hide hn
 subst hv
 have HB1 := hide hb1
 have hn1 : n ≤ 4000000 := by rw [hn]; exact hil
 clear hlk hil hb1 hn HB8
 go_wp2_with fail
 refine (asmI_all its _ w1 HIt.out HLk.out HIl.out).mono ?_
 rintro e w2 ⟨u, r, rfl, hR, hu, hb2⟩
 have HR := hide hR
 have HU := hide hu
 have HB2 := hide (HB1.out.trans (hb2.mono HB1.out.size))
 have HIt2 := hide (HIt.out.below hb2)
 obtain ⟨ua, uc, hue⟩ := hu.shape
 obtain ⟨rn, hrn⟩ : ∃ rn, rn = r.length := ⟨_, rfl⟩
 rw [← hrn] at hue
 have HRn := hide hrn
 subst hue
 have hrl : rn ≤ 40000 := by rw [hrn]; exact hR.len
 clear hR hu hb2 hrn HIt HB1
 go_wp2_with fail
 refine (asmG_all its _ w2 HIt2.out HIl.out).mono ?_
 rintro e w3 ⟨u', r', rfl, hR', hu', hb3⟩
 obtain rfl : r = r' := HR.out.one hR'
 obtain ⟨ta, tc, hte, -⟩ := hu'
 rw [← HRn.out] at hte
 subst hte
 have HB3 := hide (HB2.out.trans (hb3.mono HB2.out.size))
 have HI := hide (HIt2.out.below hb3)
 have HW := hide (HU.out.cel.below hb3)
 clear hR' hb3 HIt2 HB2 HU
 by_cases hr0 : rn = 0
 ·subst hr0
  go_wp2_with fail
  go_ret
  exact ⟨rfl, HB3.out⟩
 obtain ⟨hn2, hG, hLi, lg, hF, hpl, hrr⟩ := HR.out.some (by rw [← HRn.out]; omega)
 have HG := hide hG
 have HLi := hide hLi
 have HF := hide hF
 have HPl := hide hpl
 have HRr := hide hrr
 have hn20 : n ≤ 20000 := by rw [HN.out]; exact hn2
 obtain ⟨m, hm⟩ : ∃ m : Nat, (60000 : Int) = m := ⟨60000, rfl⟩
 have hm6 : (m : Int) = 60000 := by omega
 have HM := hide hm
 obtain ⟨B, hB⟩ : ∃ B, B = w3.heap.size := ⟨_, rfl⟩
 have HBq := hide hB
 clear hn2 hG hLi hF hpl hrr hB HR hm HIl HLk
 obtain ⟨ub, hua, hUc⟩ : ∃ b, ua = some ⟨b, 0, none⟩ ∧ Hid (∀ j (h : j < r.length), w3.cell? ⟨b, j, none⟩ = some (.int .u32 r[j])) := by
  obtain ⟨a', c', e, hx⟩ := HW.out
  simp only [Value.slice.injEq] at e
  obtain ⟨b, hb, hc⟩ := hx (by rw [← HRn.out]; omega)
  exact ⟨b, by rw [e.1, hb], hc⟩
 subst hua
 go_wp2_with (at_make; refine wpList_make_full w3 rfl _ _ 27 rfl w3.heap.size 2 i2 (.int .i64 0) 1 Tryz.underlying27 hi2 hz20 hz21 _ _ _ _ m rfl rfl HM.out HM.out ?m1 ?m2 ?m3 ?_; rotate_right; intro w4 hown4 hgrow4; have HL4 := hide hown4; have HT4 := hide (Tcs.of_grown (S := fun _ => False) hgrow4 (fun k hk => by cases hk)); clear hown4 hgrow4)
 case m1 => rw [hz22]; omega
 case m2 => unfold maxLen; omega
 case m3 => omega
 rw [← HBq.out] at HL4 ⊢
 have HS0 := hide (ls_start HBq.out HL4.out)
 have HB4 : Hid (Below w3.heap.size w3 ((w4.alloc (.cells #[] 2)).alloc (.cells #[] 2))) := by
  have h4 : Below w3.heap.size w3 w4 := HT4.out.below (Below.refl _ _) (Nat.le_refl _) (fun k hk => hk.elim)
  have h5 := h4.trans ((bel_a w4 (.cells #[] 2)).mono h4.size)
  exact h5.trans ((bel_a _ (.cells #[] 2)).mono h5.size)
 clear HL4 HT4
 go_wp2_with fail
 go_loopw [7, 8, 9, 10] (fun vt vf av iv wr => ∃ (k : Nat) (L : List Int), k ≤ n ∧ iv = .int .i64 k ∧ av = .int .i64 (plN its lg k : Nat) ∧ (∃ a1 n1 c1, vt = .slice a1 n1 c1) ∧ (∃ a2 n2 c2, vf = .slice a2 n2 c2) ∧ Hid (L.length = m) ∧ Lab its lg L k ∧ LS B wr (.slice (some ⟨B, 0, none⟩) m m) vt vf L ((refs its lg k).map (·.1)) ((refs its lg k).map (·.2)) ∧ Below w3.heap.size w3 wr) (fun _ _ _ iv _ => n - (RowKit.intOf iv).toNat)
 case atStart => exact ⟨0, List.replicate m 0, Nat.zero_le _, rfl, rfl, ⟨_, _, _, rfl⟩, ⟨_, _, _, rfl⟩, by show _ = _; simp, (fun p hp => by omega), HS0.out, HB4.out⟩
 case round =>
  obtain ⟨k, L, hk, rfl, rfl, ⟨ta, tn, tc, rfl⟩, ⟨fa, fn, fc, rfl⟩, HLm, hLb, hLS, hBr⟩ := hrel
  have HLb := hide hLb
  have HLS := hide hLS
  have HBr := hide hBr
  have hszB : B ≤ wr.heap.size := by rw [HBq.out]; exact hBr.size
  have HIr := hide (HI.out.below hBr)
  have HUr : Hid (∀ j (h : j < r.length), wr.cell? ⟨ub, j, none⟩ = some (.int .u32 r[j])) := fun j hj => (hBr.cell (p := ⟨ub, j, none⟩) (World.block_lt_of_cell? _ _ (hUc.out j hj))).trans (hUc.out j hj)
  obtain ⟨A, hA⟩ : ∃ A, A = plN its lg k := ⟨_, rfl⟩
  rw [← hA]
  have HA := hide hA
  have hA2 : A ≤ 20000 := by rw [hA]; exact Nat.le_trans (plN_up its lg (by rw [HN.out] at hk; exact hk)) HPl.out
  clear hLb hLS hBr HS0 HB4 hA
  by_cases hlt : k < n
  ·obtain ⟨b, off, hva, hIC⟩ : ∃ b off, va = some ⟨b, off, none⟩ ∧ ItemsC wr b off its := by
    obtain ⟨a', c', e, -, -, hx⟩ := HIr.out
    simp only [Value.slice.injEq] at e
    obtain ⟨b, off, h1, h2⟩ := hx (by rw [← HN.out]; omega)
    exact ⟨b, off, by rw [e.1, h1], h2⟩
   subst hva
   have hki : k < its.length := by rw [← HN.out]; exact hlt
   have hPic : Pic its lg r k := by rw [HRr.out]; exact pc_any HF.out HG.out HLi.out HPl.out hki
   obtain ⟨c0, c1, c2, c3, c4, c5, c6⟩ := hIC k hki
   have hgd : its[k] = its.getD k it0 := by rw [List.getD_eq_getElem?_getD, List.getElem?_eq_getElem hki]; rfl
   rw [hgd] at c0 c1 c2 c3 c4 c5 c6
   have hlb0 := (good_kind (HG.out k hki)).1
   have hrl2 := refs_len its lg k
   unfold Pic at hPic
   dsimp only at hPic
   have hr1 : (its.getD k it0).kind < 3 → refs its lg (k + 1) = refs its lg k := refs_no
   have hr3 : 3 ≤ (its.getD k it0).kind → refs its lg (k + 1) = refs its lg k ++ [((its.getD k it0).label, 4 * (plN its lg (tgt its k) : Int))] := refs_yes
   have hLset : (its.getD k it0).kind = 2 → (its.getD k it0).label.toNat < L.length → Lab its lg (L.set (its.getD k it0).label.toNat (4 * (plN its lg k : Int))) (k + 1) := fun h2 h => HLb.out.set HLi.out HG.out hki h2 h
   have hLnx : (its.getD k it0).kind ≠ 2 ∨ 60000 ≤ (its.getD k it0).label → Lab its lg L (k + 1) := fun h => HLb.out.next h
   rw [← HA.out] at hPic hLset
   generalize its.getD k it0 = x at *
   obtain ⟨kd, ⟨op, rd, s1, s2, im⟩, lb⟩ := x
   dsimp only at *
   generalize 4 * (plN its lg (tgt its k) : Int) = TG at *
   have HR1 := hide hr1
   have HR3 := hide hr3
   have HLset := hide hLset
   have HLnx := hide hLnx
   clear hIC hgd hr1 hr3 hLset hLnx HLb HIr
   rcases hPic with ⟨rfl, hp1⟩ | ⟨rfl, hp1, hra, hev⟩ | ⟨jr, far, hkd, hp1, hra, hev, htg, hf1, hf2⟩ | ⟨far, rfl, hp1, hra, hev, htg, hf1, hf2⟩ | ⟨oq, far, rfl, hp1, hra, hoq, hev, hrb, hev2, htg, hf1, hf2⟩
   ·have hRf := HR1.out (by omega)
    have hw4 : IntKind.i64.wrap (4 * (A : Int)) = 4 * (A : Int) := by rw [IntKind.wrap_i64]; omega
    obtain ⟨P, W1, hP, hW1, hfx, hb1, hLS1, hne, hBP, hP1⟩ := x_box HLS.out hszB #[.int .i64 2, .int .i64 op, .int .i64 rd, .int .i64 s1, .int .i64 s2, .int .i64 im, .int .i64 lb] 31 (by simp)
    have HP := hide hP
    have HW1 := hide hW1
    have HFx := hide hfx
    have HLS1 := hide hLS1
    have HNe := hide hne
    have HB1 := hide (HBr.out.trans (hb1.mono HBr.out.size))
    have hs1 := hb1.size
    have HU1 : Hid (∀ j (h : j < r.length), W1.cell? ⟨ub, j, none⟩ = some (.int .u32 r[j])) := fun j hj => (hb1.cell (p := ⟨ub, j, none⟩) (World.block_lt_of_cell? _ _ (HUr.out j hj))).trans (HUr.out j hj)
    clear hP hW1 hfx hLS1 hne hb1 HLS HBr HUr
    go_upto_region 18 with fail
    rw [← HW1.out, ← HP.out]
    clear HW1 HP c0 c1 c2 c3 c4 c5 c6
    have p0 := (HFx.out 0 _ rfl).1
    have p1 := (HFx.out 1 _ rfl).1
    have p2 := (HFx.out 2 _ rfl).1
    have p3 := (HFx.out 3 _ rfl).1
    have p4 := (HFx.out 4 _ rfl).1
    have p5 := (HFx.out 5 _ rfl).1
    have p6 := (HFx.out 6 _ rfl).1
    by_cases hl6 : lb < 60000
    ·obtain ⟨j, rfl⟩ : ∃ j : Nat, lb = j := ⟨lb.toNat, by omega⟩
     have hjm : j < m := by omega
     have hjL : j < L.length := by rw [HLm.out]; exact hjm
     have hq := ir_cell HLS1.out.l (List.getElem?_eq_getElem hjL)
     have hqf := ir_fz HLS1.out.l j
     generalize L[j] = zo at hq
     obtain ⟨hs, ht⟩ := HLS1.out.putL j (4 * (A : Int))
     have HS2 := hide hs
     have HB2 := hide (ht.below HB1.out (by rw [← HBq.out]; omega) (fun k hk => by rw [← HBq.out]; exact hk.1))
     have HLb2 := hide (HLset.out rfl hjL)
     have HLm2 : Hid ((L.set j (4 * (A : Int))).length = m) := by show _ = _; rw [List.length_set]; exact HLm.out
     clear hs ht HLS1 HLset HLnx HR1 HR3
     have HS3 : Hid (LS B (W1.setCell ⟨B, j, none⟩ (.int .i64 (4 * (A : Int)))) (.slice (some ⟨B, 0, none⟩) m m) (.slice ta tn tc) (.slice fa fn fc) (L.set j (4 * (A : Int))) ((refs its lg (k + 1)).map (·.1)) ((refs its lg (k + 1)).map (·.2))) := by rw [hRf]; exact HS2.out
     clear HS2 hRf
     go_wp2_with fail
     go_roundw
     case rel => exact ⟨k + 1, L.set j (4 * (A : Int)), by omega, by go_num, by rw [hp1], ⟨_, _, _, rfl⟩, ⟨_, _, _, rfl⟩, HLm2, HLb2.out, HS3.out, HB2.out⟩
     case measure => simp [RowKit.intOf]; omega
    ·have HLb2 := hide (HLnx.out (.inr (by omega)))
     have HS3 : Hid (LS B W1 (.slice (some ⟨B, 0, none⟩) m m) (.slice ta tn tc) (.slice fa fn fc) L ((refs its lg (k + 1)).map (·.1)) ((refs its lg (k + 1)).map (·.2))) := by rw [hRf]; exact HLS1.out
     clear HLS1 HLset HLnx HR1 HR3 hRf
     go_wp2_with fail
     go_roundw
     case rel => exact ⟨k + 1, L, by omega, by go_num, by rw [hp1], ⟨_, _, _, rfl⟩, ⟨_, _, _, rfl⟩, HLm, HLb2.out, HS3.out, HB1.out⟩
     case measure => simp [RowKit.intOf]; omega
   ·have hRf := HR1.out (by omega)
    obtain ⟨hAr, hAe⟩ := List.getElem?_eq_some_iff.1 hra
    have HDc : Hid (∀ w : World, Calls Tryz.prog 7 #[.int .u32 (eR ⟨op, rd, s1, s2, im⟩)] w fun e w' => e = .returned (.agg #[.bool true, .int .i64 op, .int .i64 rd, .int .i64 s1, .int .i64 s2, .int .i64 im]) ∧ Below w.heap.size w w') := fun w => dec_any hev w
    obtain ⟨P, W1, hP, hW1, hfx, hb1, hLS1, hne, hBP, hP1⟩ := x_box HLS.out hszB #[.int .i64 1, .int .i64 op, .int .i64 rd, .int .i64 s1, .int .i64 s2, .int .i64 im, .int .i64 lb] 31 (by simp)
    have HP := hide hP
    have HW1 := hide hW1
    have HFx := hide hfx
    have HLS1 := hide hLS1
    have HNe := hide hne
    have HB1 := hide (HBr.out.trans (hb1.mono HBr.out.size))
    have hs1 := hb1.size
    have HU1 : Hid (∀ j (h : j < r.length), W1.cell? ⟨ub, j, none⟩ = some (.int .u32 r[j])) := fun j hj => (hb1.cell (p := ⟨ub, j, none⟩) (World.block_lt_of_cell? _ _ (HUr.out j hj))).trans (HUr.out j hj)
    clear hP hW1 hfx hLS1 hne hb1 HLS HBr HUr
    go_upto_region 18 with fail
    rw [← HW1.out, ← HP.out]
    clear HW1 HP c0 c1 c2 c3 c4 c5 c6
    have q0 : W1.cell? ⟨ub, A, none⟩ = some (.int .u32 (eR ⟨op, rd, s1, s2, im⟩)) := by rw [← hAe]; exact HU1.out _ hAr
    have hArn : A < rn := by rw [HRn.out]; exact hAr
    generalize eR ⟨op, rd, s1, s2, im⟩ = wd at q0 HDc
    clear hra hAe
    have p0 := (HFx.out 0 _ rfl).1
    have p1 := (HFx.out 1 _ rfl).1
    have p2 := (HFx.out 2 _ rfl).1
    have p3 := (HFx.out 3 _ rfl).1
    have p4 := (HFx.out 4 _ rfl).1
    have p5 := (HFx.out 5 _ rfl).1
    have p6 := (HFx.out 6 _ rfl).1
    go_wp2_with fail
    refine (HDc.out _).mono ?_
    rintro e w5 ⟨rfl, hb5⟩
    obtain ⟨Q, W6, hQ, hW6, hfd, hb6, hLS6, hneQ, hBQ, hQ6⟩ := x_box (HLS1.out.below hb5) (by have := hb5.size; omega) #[.bool true, .int .i64 op, .int .i64 rd, .int .i64 s1, .int .i64 s2, .int .i64 im] 33 (by simp)
    have hb56 := hb5.trans (hb6.mono hb5.size)
    have HQ := hide hQ
    have HW6 := hide hW6
    have HFd := hide hfd
    have HFx6 := hide (HFx.out.below hb56)
    have HLS6 := hide hLS6
    have HNeQ := hide hneQ
    have HB6 := hide (HB1.out.trans (hb56.mono HB1.out.size))
    have hs6 := hb56.size
    have hPQ : P < Q := by rw [hQ]; have := hb5.size; omega
    have HU6 : Hid (∀ j (h : j < r.length), W6.cell? ⟨ub, j, none⟩ = some (.int .u32 r[j])) := fun j hj => (hb56.cell (p := ⟨ub, j, none⟩) (World.block_lt_of_cell? _ _ (HU1.out j hj))).trans (HU1.out j hj)
    clear hb5 hQ hW6 hfd hb6 hLS6 hneQ hb56 HLS1 HFx HB1 HU1 q0 p0 p1 p2 p3 p4 p5 p6
    go_upto_region 24 with fail
    rw [← HW6.out, ← HQ.out]
    clear HW6 HQ
    have p0 := (HFx6.out 0 _ rfl).1
    have p1 := (HFx6.out 1 _ rfl).1
    have p2 := (HFx6.out 2 _ rfl).1
    have p3 := (HFx6.out 3 _ rfl).1
    have p4 := (HFx6.out 4 _ rfl).1
    have p5 := (HFx6.out 5 _ rfl).1
    have p6 := (HFx6.out 6 _ rfl).1
    have d0 := (HFd.out 0 _ rfl).1
    have d1 := (HFd.out 1 _ rfl).1
    have d2 := (HFd.out 2 _ rfl).1
    have d3 := (HFd.out 3 _ rfl).1
    have d4 := (HFd.out 4 _ rfl).1
    have d5 := (HFd.out 5 _ rfl).1
    have HLb2 := hide (HLnx.out (.inl (by omega)))
    have HS3 : Hid (LS B W6 (.slice (some ⟨B, 0, none⟩) m m) (.slice ta tn tc) (.slice fa fn fc) L ((refs its lg (k + 1)).map (·.1)) ((refs its lg (k + 1)).map (·.2))) := by rw [hRf]; exact HLS6.out
    clear HLS6 HLset HLnx HR1 HR3 hRf
    go_wp2_with fail
    go_roundw
    case rel => exact ⟨k + 1, L, by omega, by go_num, by rw [hp1]; go_num, ⟨_, _, _, rfl⟩, ⟨_, _, _, rfl⟩, HLm, HLb2.out, HS3.out, HB6.out⟩
    case measure => simp [RowKit.intOf]; omega
   ·have hRf := HR3.out (by omega)
    have hw4 : IntKind.i64.wrap (4 * (A : Int)) = 4 * (A : Int) := by rw [IntKind.wrap_i64]; omega
    have hw5 : IntKind.i64.wrap (4 * (A : Int) + far) = TG := by rw [IntKind.wrap_i64]; omega
    have k1 : (kd == 1) = false := by rw [beq_eq_false_iff_ne]; omega
    have k2 : (kd == 2) = false := by rw [beq_eq_false_iff_ne]; omega
    have k3 : (kd == 3) = false := by rw [beq_eq_false_iff_ne]; omega
    have k4 : (kd != 3) = true := by rw [bne_iff_ne]; omega
    have k5 : ¬ kd = 2 := by omega
    obtain ⟨hAr, hAe⟩ := List.getElem?_eq_some_iff.1 hra
    have HDc : Hid (∀ w : World, Calls Tryz.prog 7 #[.int .u32 (eR ⟨2, jr, 0, 0, far⟩)] w fun e w' => e = .returned (.agg #[.bool true, .int .i64 2, .int .i64 jr, .int .i64 0, .int .i64 0, .int .i64 far]) ∧ Below w.heap.size w w') := fun w => dec_any hev w
    obtain ⟨P, W1, hP, hW1, hfx, hb1, hLS1, hne, hBP, hP1⟩ := x_box HLS.out hszB #[.int .i64 kd, .int .i64 op, .int .i64 rd, .int .i64 s1, .int .i64 s2, .int .i64 im, .int .i64 lb] 31 (by simp)
    have HP := hide hP
    have HW1 := hide hW1
    have HFx := hide hfx
    have HLS1 := hide hLS1
    have HNe := hide hne
    have HB1 := hide (HBr.out.trans (hb1.mono HBr.out.size))
    have hs1 := hb1.size
    have HU1 : Hid (∀ j (h : j < r.length), W1.cell? ⟨ub, j, none⟩ = some (.int .u32 r[j])) := fun j hj => (hb1.cell (p := ⟨ub, j, none⟩) (World.block_lt_of_cell? _ _ (HUr.out j hj))).trans (HUr.out j hj)
    clear hP hW1 hfx hLS1 hne hb1 HLS HBr HUr
    go_upto_region 18 with fail
    rw [← HW1.out, ← HP.out]
    clear HW1 HP c0 c1 c2 c3 c4 c5 c6
    have q0 : W1.cell? ⟨ub, A, none⟩ = some (.int .u32 (eR ⟨2, jr, 0, 0, far⟩)) := by rw [← hAe]; exact HU1.out _ hAr
    have hArn : A < rn := by rw [HRn.out]; exact hAr
    generalize eR ⟨2, jr, 0, 0, far⟩ = wd at q0 HDc
    clear hra hAe
    have p0 := (HFx.out 0 _ rfl).1
    have p1 := (HFx.out 1 _ rfl).1
    have p2 := (HFx.out 2 _ rfl).1
    have p3 := (HFx.out 3 _ rfl).1
    have p4 := (HFx.out 4 _ rfl).1
    have p5 := (HFx.out 5 _ rfl).1
    have p6 := (HFx.out 6 _ rfl).1
    go_wp2_with fail
    refine (HDc.out _).mono ?_
    rintro e w5 ⟨rfl, hb5⟩
    obtain ⟨Q, W6, hQ, hW6, hfd, hb6, hLS6, hneQ, hBQ, hQ6⟩ := x_box (HLS1.out.below hb5) (by have := hb5.size; omega) #[.bool true, .int .i64 2, .int .i64 jr, .int .i64 0, .int .i64 0, .int .i64 far] 33 (by simp)
    have hb56 := hb5.trans (hb6.mono hb5.size)
    have HQ := hide hQ
    have HW6 := hide hW6
    have HFd := hide hfd
    have HFx6 := hide (HFx.out.below hb56)
    have HLS6 := hide hLS6
    have HNeQ := hide hneQ
    have HB6 := hide (HB1.out.trans (hb56.mono HB1.out.size))
    have hs6 := hb56.size
    have hPQ : P < Q := by rw [hQ]; have := hb5.size; omega
    have HU6 : Hid (∀ j (h : j < r.length), W6.cell? ⟨ub, j, none⟩ = some (.int .u32 r[j])) := fun j hj => (hb56.cell (p := ⟨ub, j, none⟩) (World.block_lt_of_cell? _ _ (HU1.out j hj))).trans (HU1.out j hj)
    clear hb5 hQ hW6 hfd hb6 hLS6 hneQ hb56 HLS1 HFx HB1 HU1 q0 p0 p1 p2 p3 p4 p5 p6
    go_upto_region 24 with fail
    rw [← HW6.out, ← HQ.out]
    clear HW6 HQ
    have p0 := (HFx6.out 0 _ rfl).1
    have p1 := (HFx6.out 1 _ rfl).1
    have p2 := (HFx6.out 2 _ rfl).1
    have p3 := (HFx6.out 3 _ rfl).1
    have p4 := (HFx6.out 4 _ rfl).1
    have p5 := (HFx6.out 5 _ rfl).1
    have p6 := (HFx6.out 6 _ rfl).1
    have d0 := (HFd.out 0 _ rfl).1
    have d1 := (HFd.out 1 _ rfl).1
    have d2 := (HFd.out 2 _ rfl).1
    have d3 := (HFd.out 3 _ rfl).1
    have d4 := (HFd.out 4 _ rfl).1
    have d5 := (HFd.out 5 _ rfl).1
    have hszW : B ≤ W6.heap.size := by omega
    obtain ⟨xa, xn, xc, w7, hr7, hLS7, ht7⟩ := HLS6.out.appF TG 27 hszW (by rw [List.length_map]; omega)
    obtain ⟨ya, yn, yc, w8, hr8, hLS8, ht8⟩ := hLS7.appT lb 27 (by have := ht7.size; omega) (by rw [List.length_map]; omega)
    have HP7 := hide (HFx6.out.tcs (by omega) ht7 (fun e => HNe.out.2.2 e.2))
    have HA7 := hide hr7
    have HA8 := hide hr8
    have HB8 : Hid (Below w3.heap.size w3 w8) := ht8.below (ht7.below HB6.out (by rw [← HBq.out]; omega) (fun k hk => by rw [← HBq.out]; exact hk.1)) (by rw [← HBq.out]; have := ht7.size; omega) (fun k hk => by rw [← HBq.out]; exact hk.1)
    have HS3 : Hid (LS B w8 (.slice (some ⟨B, 0, none⟩) m m) (.slice ya yn yc) (.slice xa xn xc) L ((refs its lg (k + 1)).map (·.1)) ((refs its lg (k + 1)).map (·.2))) := by rw [hRf, List.map_append, List.map_append]; exact hLS8
    have HLb2 := hide (HLnx.out (.inl k5))
    clear hr7 hr8 hLS7 hLS8 ht7 ht8 HLS6 HLset HLnx HR1 HR3 hRf
    go_upto_region 39 with (at_builtin; refine wpList_appG rfl _ _ _ rfl _ _ _ _ rfl rfl HA7.out ?_)
    have p9 := (HP7.out 6 _ rfl).1
    go_wp2_with (at_builtin; refine wpList_appG rfl _ _ _ rfl _ _ _ _ rfl rfl HA8.out ?_)
    go_roundw
    case rel => exact ⟨k + 1, L, by omega, by go_num, by rw [hp1]; go_num, ⟨_, _, _, rfl⟩, ⟨_, _, _, rfl⟩, HLm, HLb2.out, HS3.out, HB8.out⟩
    case measure => simp [RowKit.intOf]; omega
   ·have hRf := HR3.out (by omega)
    have hw4 : IntKind.i64.wrap (4 * (A : Int)) = 4 * (A : Int) := by rw [IntKind.wrap_i64]; omega
    have hw5 : IntKind.i64.wrap (4 * (A : Int) + far) = TG := by rw [IntKind.wrap_i64]; omega
    obtain ⟨hAr, hAe⟩ := List.getElem?_eq_some_iff.1 hra
    have HDc : Hid (∀ w : World, Calls Tryz.prog 7 #[.int .u32 (eR ⟨op, rd, s1, s2, far⟩)] w fun e w' => e = .returned (.agg #[.bool true, .int .i64 op, .int .i64 rd, .int .i64 s1, .int .i64 s2, .int .i64 far]) ∧ Below w.heap.size w w') := fun w => dec_any hev w
    obtain ⟨P, W1, hP, hW1, hfx, hb1, hLS1, hne, hBP, hP1⟩ := x_box HLS.out hszB #[.int .i64 3, .int .i64 op, .int .i64 rd, .int .i64 s1, .int .i64 s2, .int .i64 im, .int .i64 lb] 31 (by simp)
    have HP := hide hP
    have HW1 := hide hW1
    have HFx := hide hfx
    have HLS1 := hide hLS1
    have HNe := hide hne
    have HB1 := hide (HBr.out.trans (hb1.mono HBr.out.size))
    have hs1 := hb1.size
    have HU1 : Hid (∀ j (h : j < r.length), W1.cell? ⟨ub, j, none⟩ = some (.int .u32 r[j])) := fun j hj => (hb1.cell (p := ⟨ub, j, none⟩) (World.block_lt_of_cell? _ _ (HUr.out j hj))).trans (HUr.out j hj)
    clear hP hW1 hfx hLS1 hne hb1 HLS HBr HUr
    go_upto_region 18 with fail
    rw [← HW1.out, ← HP.out]
    clear HW1 HP c0 c1 c2 c3 c4 c5 c6
    have q0 : W1.cell? ⟨ub, A, none⟩ = some (.int .u32 (eR ⟨op, rd, s1, s2, far⟩)) := by rw [← hAe]; exact HU1.out _ hAr
    have hArn : A < rn := by rw [HRn.out]; exact hAr
    generalize eR ⟨op, rd, s1, s2, far⟩ = wd at q0 HDc
    clear hra hAe
    have p0 := (HFx.out 0 _ rfl).1
    have p1 := (HFx.out 1 _ rfl).1
    have p2 := (HFx.out 2 _ rfl).1
    have p3 := (HFx.out 3 _ rfl).1
    have p4 := (HFx.out 4 _ rfl).1
    have p5 := (HFx.out 5 _ rfl).1
    have p6 := (HFx.out 6 _ rfl).1
    go_wp2_with fail
    refine (HDc.out _).mono ?_
    rintro e w5 ⟨rfl, hb5⟩
    obtain ⟨Q, W6, hQ, hW6, hfd, hb6, hLS6, hneQ, hBQ, hQ6⟩ := x_box (HLS1.out.below hb5) (by have := hb5.size; omega) #[.bool true, .int .i64 op, .int .i64 rd, .int .i64 s1, .int .i64 s2, .int .i64 far] 33 (by simp)
    have hb56 := hb5.trans (hb6.mono hb5.size)
    have HQ := hide hQ
    have HW6 := hide hW6
    have HFd := hide hfd
    have HFx6 := hide (HFx.out.below hb56)
    have HLS6 := hide hLS6
    have HNeQ := hide hneQ
    have HB6 := hide (HB1.out.trans (hb56.mono HB1.out.size))
    have hs6 := hb56.size
    have hPQ : P < Q := by rw [hQ]; have := hb5.size; omega
    have HU6 : Hid (∀ j (h : j < r.length), W6.cell? ⟨ub, j, none⟩ = some (.int .u32 r[j])) := fun j hj => (hb56.cell (p := ⟨ub, j, none⟩) (World.block_lt_of_cell? _ _ (HU1.out j hj))).trans (HU1.out j hj)
    clear hb5 hQ hW6 hfd hb6 hLS6 hneQ hb56 HLS1 HFx HB1 HU1 q0 p0 p1 p2 p3 p4 p5 p6
    go_upto_region 24 with fail
    rw [← HW6.out, ← HQ.out]
    clear HW6 HQ
    have p0 := (HFx6.out 0 _ rfl).1
    have p1 := (HFx6.out 1 _ rfl).1
    have p2 := (HFx6.out 2 _ rfl).1
    have p3 := (HFx6.out 3 _ rfl).1
    have p4 := (HFx6.out 4 _ rfl).1
    have p5 := (HFx6.out 5 _ rfl).1
    have p6 := (HFx6.out 6 _ rfl).1
    have d0 := (HFd.out 0 _ rfl).1
    have d1 := (HFd.out 1 _ rfl).1
    have d2 := (HFd.out 2 _ rfl).1
    have d3 := (HFd.out 3 _ rfl).1
    have d4 := (HFd.out 4 _ rfl).1
    have d5 := (HFd.out 5 _ rfl).1
    have hszW : B ≤ W6.heap.size := by omega
    obtain ⟨xa, xn, xc, w7, hr7, hLS7, ht7⟩ := HLS6.out.appF TG 27 hszW (by rw [List.length_map]; omega)
    obtain ⟨ya, yn, yc, w8, hr8, hLS8, ht8⟩ := hLS7.appT lb 27 (by have := ht7.size; omega) (by rw [List.length_map]; omega)
    have HP7 := hide (HFx6.out.tcs (by omega) ht7 (fun e => HNe.out.2.2 e.2))
    have HA7 := hide hr7
    have HA8 := hide hr8
    have HB8 : Hid (Below w3.heap.size w3 w8) := ht8.below (ht7.below HB6.out (by rw [← HBq.out]; omega) (fun k hk => by rw [← HBq.out]; exact hk.1)) (by rw [← HBq.out]; have := ht7.size; omega) (fun k hk => by rw [← HBq.out]; exact hk.1)
    have HS3 : Hid (LS B w8 (.slice (some ⟨B, 0, none⟩) m m) (.slice ya yn yc) (.slice xa xn xc) L ((refs its lg (k + 1)).map (·.1)) ((refs its lg (k + 1)).map (·.2))) := by rw [hRf, List.map_append, List.map_append]; exact hLS8
    have HLb2 := hide (HLnx.out (.inl (by omega)))
    clear hr7 hr8 hLS7 hLS8 ht7 ht8 HLS6 HLset HLnx HR1 HR3 hRf
    go_upto_region 39 with (at_builtin; refine wpList_appG rfl _ _ _ rfl _ _ _ _ rfl rfl HA7.out ?_)
    have p9 := (HP7.out 6 _ rfl).1
    go_wp2_with (at_builtin; refine wpList_appG rfl _ _ _ rfl _ _ _ _ rfl rfl HA8.out ?_)
    go_roundw
    case rel => exact ⟨k + 1, L, by omega, by go_num, by rw [hp1]; go_num, ⟨_, _, _, rfl⟩, ⟨_, _, _, rfl⟩, HLm, HLb2.out, HS3.out, HB8.out⟩
    case measure => simp [RowKit.intOf]; omega
   ·have hRf := HR3.out (by omega)
    obtain ⟨A1, hA1⟩ : ∃ A1, A1 = A + 1 := ⟨_, rfl⟩
    rw [← hA1] at hrb
    have hw4 : IntKind.i64.wrap (4 * (A : Int)) = 4 * (A : Int) := by rw [IntKind.wrap_i64]; omega
    have hw8 : IntKind.i64.wrap (4 * (A : Int) + 8) = 4 * (A : Int) + 8 := by rw [IntKind.wrap_i64]; omega
    have hw1 : IntKind.i64.wrap ((A : Int) + 1) = (A1 : Int) := by rw [IntKind.wrap_i64]; omega
    have hw6 : IntKind.i64.wrap (4 * (A1 : Int)) = 4 * (A1 : Int) := by rw [IntKind.wrap_i64]; omega
    have hw7 : IntKind.i64.wrap (4 * (A1 : Int) + far) = TG := by rw [IntKind.wrap_i64]; omega
    have ho1 : (oq != op) = true := by rw [bne_iff_ne]; exact hoq
    have hA12 : A1 ≤ 20001 := by omega
    have hp2 : plN its lg (k + 1) = A1 + 1 := by omega
    obtain ⟨hAr, hAe⟩ := List.getElem?_eq_some_iff.1 hra
    have HDc : Hid (∀ w : World, Calls Tryz.prog 7 #[.int .u32 (eR ⟨oq, rd, s1, s2, 8⟩)] w fun e w' => e = .returned (.agg #[.bool true, .int .i64 oq, .int .i64 rd, .int .i64 s1, .int .i64 s2, .int .i64 8]) ∧ Below w.heap.size w w') := fun w => dec_any hev w
    obtain ⟨hAr2, hAe2⟩ := List.getElem?_eq_some_iff.1 hrb
    have HDc2 : Hid (∀ w : World, Calls Tryz.prog 7 #[.int .u32 (eR ⟨2, 0, 0, 0, far⟩)] w fun e w' => e = .returned (.agg #[.bool true, .int .i64 2, .int .i64 0, .int .i64 0, .int .i64 0, .int .i64 far]) ∧ Below w.heap.size w w') := fun w => dec_any hev2 w
    obtain ⟨P, W1, hP, hW1, hfx, hb1, hLS1, hne, hBP, hP1⟩ := x_box HLS.out hszB #[.int .i64 3, .int .i64 op, .int .i64 rd, .int .i64 s1, .int .i64 s2, .int .i64 im, .int .i64 lb] 31 (by simp)
    have HP := hide hP
    have HW1 := hide hW1
    have HFx := hide hfx
    have HLS1 := hide hLS1
    have HNe := hide hne
    have HB1 := hide (HBr.out.trans (hb1.mono HBr.out.size))
    have hs1 := hb1.size
    have HU1 : Hid (∀ j (h : j < r.length), W1.cell? ⟨ub, j, none⟩ = some (.int .u32 r[j])) := fun j hj => (hb1.cell (p := ⟨ub, j, none⟩) (World.block_lt_of_cell? _ _ (HUr.out j hj))).trans (HUr.out j hj)
    clear hP hW1 hfx hLS1 hne hb1 HLS HBr HUr
    go_upto_region 18 with fail
    rw [← HW1.out, ← HP.out]
    clear HW1 HP c0 c1 c2 c3 c4 c5 c6
    have q0 : W1.cell? ⟨ub, A, none⟩ = some (.int .u32 (eR ⟨oq, rd, s1, s2, 8⟩)) := by rw [← hAe]; exact HU1.out _ hAr
    have hArn : A < rn := by rw [HRn.out]; exact hAr
    have hAr2n : A1 < rn := by rw [HRn.out]; exact hAr2
    generalize eR ⟨oq, rd, s1, s2, 8⟩ = wd at q0 HDc
    clear hra hAe htg hA1 hp1 hoq
    have p0 := (HFx.out 0 _ rfl).1
    have p1 := (HFx.out 1 _ rfl).1
    have p2 := (HFx.out 2 _ rfl).1
    have p3 := (HFx.out 3 _ rfl).1
    have p4 := (HFx.out 4 _ rfl).1
    have p5 := (HFx.out 5 _ rfl).1
    have p6 := (HFx.out 6 _ rfl).1
    go_wp2_with fail
    refine (HDc.out _).mono ?_
    rintro e w5 ⟨rfl, hb5⟩
    obtain ⟨Q, W6, hQ, hW6, hfd, hb6, hLS6, hneQ, hBQ, hQ6⟩ := x_box (HLS1.out.below hb5) (by have := hb5.size; omega) #[.bool true, .int .i64 oq, .int .i64 rd, .int .i64 s1, .int .i64 s2, .int .i64 8] 33 (by simp)
    have hb56 := hb5.trans (hb6.mono hb5.size)
    have HQ := hide hQ
    have HW6 := hide hW6
    have HFd := hide hfd
    have HFx6 := hide (HFx.out.below hb56)
    have HLS6 := hide hLS6
    have HNeQ := hide hneQ
    have HB6 := hide (HB1.out.trans (hb56.mono HB1.out.size))
    have hs6 := hb56.size
    have hPQ : P < Q := by rw [hQ]; have := hb5.size; omega
    have HU6 : Hid (∀ j (h : j < r.length), W6.cell? ⟨ub, j, none⟩ = some (.int .u32 r[j])) := fun j hj => (hb56.cell (p := ⟨ub, j, none⟩) (World.block_lt_of_cell? _ _ (HU1.out j hj))).trans (HU1.out j hj)
    clear hb5 hQ hW6 hfd hb6 hLS6 hneQ hb56 HLS1 HFx HB1 HU1 q0 p0 p1 p2 p3 p4 p5 p6
    go_upto_region 24 with fail
    rw [← HW6.out, ← HQ.out]
    clear HW6 HQ
    have p0 := (HFx6.out 0 _ rfl).1
    have p1 := (HFx6.out 1 _ rfl).1
    have p2 := (HFx6.out 2 _ rfl).1
    have p3 := (HFx6.out 3 _ rfl).1
    have p4 := (HFx6.out 4 _ rfl).1
    have p5 := (HFx6.out 5 _ rfl).1
    have p6 := (HFx6.out 6 _ rfl).1
    have d0 := (HFd.out 0 _ rfl).1
    have d1 := (HFd.out 1 _ rfl).1
    have d2 := (HFd.out 2 _ rfl).1
    have d3 := (HFd.out 3 _ rfl).1
    have d4 := (HFd.out 4 _ rfl).1
    have d5 := (HFd.out 5 _ rfl).1
    have q1 : W6.cell? ⟨ub, A1, none⟩ = some (.int .u32 (eR ⟨2, 0, 0, 0, far⟩)) := by rw [← hAe2]; exact HU6.out _ hAr2
    generalize eR ⟨2, 0, 0, 0, far⟩ = wd2 at q1 HDc2
    clear hrb hAe2
    go_wp2_with fail
    refine (HDc2.out _).mono ?_
    rintro e w10 ⟨rfl, hb10⟩
    have hf10 := HFd.out.below hb10
    obtain ⟨W11, hW11, hF11, hT11⟩ := box_six hf10 rfl (.bool true) (.int .i64 2) (.int .i64 0) (.int .i64 0) (.int .i64 0) (.int .i64 far)
    have HW11 := hide hW11
    have HFx11 := hide ((HFx6.out.below hb10).tcs (by have := hb10.size; omega) hT11 (fun e => by have e : P = Q := e; omega))
    have HLS11 := hide ((HLS6.out.below hb10).keep hT11 (fun k hk => by have e : k = Q := hk; subst e; exact HNeQ.out))
    have HB11 := hide (hT11.below (HB6.out.trans (hb10.mono HB6.out.size)) (by have := HB6.out.size; have := hb10.size; omega) (fun k hk => by rw [← HBq.out]; omega))
    have hs11 : W6.heap.size ≤ W11.heap.size := by have := hb10.size; have := hT11.size; omega
    have g0 := (hf10 0 _ rfl).1
    have z0 := (hf10 0 _ rfl).2
    have g1 := (hf10 1 _ rfl).1
    have z1 := (hf10 1 _ rfl).2
    have g2 := (hf10 2 _ rfl).1
    have z2 := (hf10 2 _ rfl).2
    have g3 := (hf10 3 _ rfl).1
    have z3 := (hf10 3 _ rfl).2
    have g4 := (hf10 4 _ rfl).1
    have z4 := (hf10 4 _ rfl).2
    have g5 := (hf10 5 _ rfl).1
    have z5 := (hf10 5 _ rfl).2
    have d5b := (hF11 5 _ rfl).1
    have d1b := (hF11 1 _ rfl).1
    have r0 := (HFx11.out 0 _ rfl).1
    have r1 := (HFx11.out 1 _ rfl).1
    have r2 := (HFx11.out 2 _ rfl).1
    have r3 := (HFx11.out 3 _ rfl).1
    have r4 := (HFx11.out 4 _ rfl).1
    have r5 := (HFx11.out 5 _ rfl).1
    have r6 := (HFx11.out 6 _ rfl).1
    clear hb10 hf10 hW11 hF11 hT11 HFx6 HLS6 HB6 HU6 HFd p0 p1 p2 p3 p4 p5 p6 d0 d1 d2 d3 d4 d5 q1
    go_upto_region 35 with fail
    rw [← HW11.out]
    clear HW11 g0 g1 g2 g3 g4 g5 z0 z1 z2 z3 z4 z5
    have hszW : B ≤ W11.heap.size := by omega
    obtain ⟨xa, xn, xc, w7, hr7, hLS7, ht7⟩ := HLS11.out.appF TG 27 hszW (by rw [List.length_map]; omega)
    obtain ⟨ya, yn, yc, w8, hr8, hLS8, ht8⟩ := hLS7.appT lb 27 (by have := ht7.size; omega) (by rw [List.length_map]; omega)
    have HP7 := hide (HFx11.out.tcs (by omega) ht7 (fun e => HNe.out.2.2 e.2))
    have HA7 := hide hr7
    have HA8 := hide hr8
    have HB8 : Hid (Below w3.heap.size w3 w8) := ht8.below (ht7.below HB11.out (by rw [← HBq.out]; omega) (fun k hk => by rw [← HBq.out]; exact hk.1)) (by rw [← HBq.out]; have := ht7.size; omega) (fun k hk => by rw [← HBq.out]; exact hk.1)
    have HS3 : Hid (LS B w8 (.slice (some ⟨B, 0, none⟩) m m) (.slice ya yn yc) (.slice xa xn xc) L ((refs its lg (k + 1)).map (·.1)) ((refs its lg (k + 1)).map (·.2))) := by rw [hRf, List.map_append, List.map_append]; exact hLS8
    have HLb2 := hide (HLnx.out (.inl (by omega)))
    clear hr7 hr8 hLS7 hLS8 ht7 ht8 HLS11 HLset HLnx HR1 HR3 hRf
    go_upto_region 39 with (at_builtin; refine wpList_appG rfl _ _ _ rfl _ _ _ _ rfl rfl HA7.out ?_)
    have p9 := (HP7.out 6 _ rfl).1
    go_wp2_with (at_builtin; refine wpList_appG rfl _ _ _ rfl _ _ _ _ rfl rfl HA8.out ?_)
    go_roundw
    case rel => exact ⟨k + 1, L, by omega, by go_num, by rw [hp2]; go_num, ⟨_, _, _, rfl⟩, ⟨_, _, _, rfl⟩, HLm, HLb2.out, HS3.out, HB8.out⟩
    case measure => simp [RowKit.intOf]; omega
  ·obtain rfl : k = n := by omega
   have HNo : Hid (k = its.length) := HN.out
   have HArn : Hid (A = rn) := by
    show A = rn
    rw [HA.out, HRn.out, HRr.out, codeK_pl HF.out HG.out _ (Nat.le_refl _), HN.out]
   obtain ⟨R, hR⟩ : ∃ R, R = refs its lg k := ⟨_, rfl⟩
   have HOk : Hid (∀ y ∈ R, 0 ≤ y.1 ∧ (y.1 < 60000 → L[y.1.toNat]? = some y.2)) := by
    rw [hR, HN.out]
    exact refs_ok HLi.out HG.out (by rw [← HN.out]; exact HLb.out) _ (Nat.le_refl _)
   have HS := hide HLS.out
   rw [← hR] at HS
   have hRl : R.length ≤ 20000 := by rw [hR]; exact Nat.le_trans (refs_len its lg k) hn20
   obtain ⟨q1, e1⟩ : ∃ qn, qn = R.length := ⟨_, rfl⟩
   have HQn := hide e1
   have htn : tn = q1 := by
    obtain ⟨a', c', e⟩ := ir_shape HS.out.t
    simp only [Value.slice.injEq, List.length_map] at e
    rw [e.2.1, e1]
   subst htn
   have hq20 : tn ≤ 20000 := by rw [e1]; exact hRl
   have hAr : (A : Int) = rn := by have := HArn.out; omega
   clear HLS HLb hR e1 hRl HIr HUr
   go_wp2_with fail
   go_loopw [14] (fun iv W => ∃ q : Nat, q ≤ tn ∧ iv = .int .i64 q ∧ Below wr.heap.size wr W) (fun iv _ => tn - (RowKit.intOf iv).toNat)
   case atStart => exact ⟨0, Nat.zero_le _, rfl, Below.refl _ _⟩
   case round =>
    obtain ⟨q, hq, rfl, hBq⟩ := hrel
    rename World => W
    by_cases hqt : q < tn
    ·have hqR : q < R.length := by rw [← HQn.out]; exact hqt
     have hLS := HS.out.below hBq
     obtain ⟨tb, hta⟩ : ∃ tb, ta = some ⟨tb, 0, none⟩ := by
      rcases hLS.t.2 with ⟨e, hz⟩ | ⟨g, cap, cur, e, -⟩
      ·rw [List.length_map] at hz; omega
      ·simp only [Value.slice.injEq] at e; exact ⟨g, e.1⟩
     obtain ⟨fb, hfa⟩ : ∃ fb, fa = some ⟨fb, 0, none⟩ := by
      rcases hLS.f.2 with ⟨e, hz⟩ | ⟨g, cap, cur, e, -⟩
      ·rw [List.length_map] at hz; omega
      ·simp only [Value.slice.injEq] at e; exact ⟨g, e.1⟩
     have hfn : fn = tn := by
      obtain ⟨a', c', e⟩ := ir_shape hLS.f
      simp only [Value.slice.injEq, List.length_map] at e
      rw [e.2.1]; exact HQn.out.symm
     subst hta hfa hfn
     have d1 := ir_cell hLS.t (j := q) (z := R[q].1) (by simp [hqR])
     have d2 := ir_cell hLS.f (j := q) (z := R[q].2) (by simp [hqR])
     obtain ⟨y1, y2⟩ := HOk.out R[q] (List.getElem_mem hqR)
     generalize R[q] = y at *
     obtain ⟨yl, yp⟩ := y
     dsimp only at *
     have HBw := hide hBq
     by_cases hy : yl < 60000
     ·obtain ⟨j, rfl⟩ : ∃ j : Nat, yl = j := ⟨yl.toNat, by omega⟩
      have d3 := ir_cell hLS.l (j := j) (z := yp) (y2 hy)
      have hjm : j < m := by omega
      have hd : decide ((j : Int) < 60000) = true := decide_eq_true hy
      clear hLS hBq y2 hy
      go_wp2_with fail
      go_quiet (fail)
      go_wp2_with fail
      go_roundw
      case rel => exact ⟨q + 1, by omega, by go_num, below_drewN HBw.out _⟩
      case measure => simp [RowKit.intOf]; omega
     ·have hd : decide (yl < 60000) = false := decide_eq_false hy
      clear hLS hBq y2 hy
      go_wp2_with fail
      go_quiet (fail)
      go_wp2_with fail
      go_roundw
      case rel => exact ⟨q + 1, by omega, by go_num, below_drewN HBw.out _⟩
      case measure => simp [RowKit.intOf]; omega
    ·have HBw := hide hBq
     clear hBq
     go_wp2_with fail
     go_ret
     exact ⟨rfl, HB3.out.trans ((HBr.out.trans (HBw.out.mono HBr.out.size)).mono HB3.out.size)⟩
end
end Go.Proofs.YtpdndlghjldhjaaGreat
