import Derived.Test.YtpdndlghjldhjaaGreatM39
import Derived.Deep.RegionHeld3
import Derived.Deep.RegionHeldLaw
set_option linter.unusedSectionVars false
variable [Inhabited Go.Proofs.YtpdndlghjldhjaaGreat.Pick]
namespace Go.Proofs.YtpdndlghjldhjaaGreat
set_option linter.unusedVariables false
set_option linter.unusedSimpArgs false
set_option maxRecDepth 100000
set_option maxHeartbeats 16000000
section
open Go.RowKit
theorem lit4 {S:Nat->Prop} {w w':World} {t:TypeId} (h:Tcs S (w.alloc (.cells #[.int .i64 3,.int .i64 4,.int .i64 13,.int .i64 15] t)) w') (hS : ∀k,S k->k<w.heap.size) (y:Nat) (hy:y<4) : ∃v:Int,w'.cell? ⟨w.heap.size,y,none⟩=some (.int .i64 v):=by
 have e : ∀o,w'.cell? ⟨w.heap.size,o,none⟩=(w.alloc (.cells #[.int .i64 3,.int .i64 4,.int .i64 13,.int .i64 15] t)).cell? ⟨w.heap.size,o,none⟩:=fun o=>World.cell?_of_block (a:=⟨w.heap.size,o,none⟩) (h.block w.heap.size (by simp) (fun s=>by have:=hS _ s;omega))
 have:y=0∨y=1∨y=2∨y=3:=by omega
 rcases this with rfl | rfl | rfl | rfl
 ·exact ⟨3,(e 0).trans (by simp)⟩
 ·exact ⟨4,(e 1).trans (by simp)⟩
 ·exact ⟨13,(e 2).trans (by simp)⟩
 ·exact ⟨15,(e 3).trans (by simp)⟩
theorem xpt3 {x:Int} (h:0<=x/\x<3):xpt (1+x).toNat<=345:=by
 have:x=0∨x=1∨x=2:=by omega
 rcases this with rfl | rfl | rfl <;> decide
theorem whole_any (g:Nat) (a:Option Addr) (len cap:Nat) (S:Nat->Prop) (G:Gn) (K:Nat) (w:World) (hl:len<=1048576) (hL:Lo g a len S w.heap.size) (hc:Cur g a len cap w) (hG:GnOk S w G K) (hK:K<=50000) :
  Calls Tryz.prog 32 #[.pointer (some ⟨g,0,none⟩),.agg #[G.vc,G.vp,G.vs,G.vl,.int .i64 G.m]] w fun e w'=>∃u ns,e = .returned u/\NRow w.heap.size w' u ns/\okN ns 400/\Dr g a len cap S w w':=by
 have hS:=hL.sg
 obtain ⟨vc,vp,vs,vl,m,cs,ps,ss,ls⟩:=G
 have HG:=hide hG
 obtain ⟨ac,cc,e1,-⟩:=hG.c w (Tcs.refl _ _)
 obtain ⟨ap,cp,e2,-⟩:=hG.p w (Tcs.refl _ _)
 obtain ⟨av,cv,e3,-⟩:=hG.s w (Tcs.refl _ _)
 obtain ⟨al,cl,e4,-⟩:=hG.l w (Tcs.refl _ _)
 dsimp only at e1 e2 e3 e4
 subst e1 e2 e3 e4
 dsimp only
 clear hG
 generalize hW0:w.alloc (.cells #[.slice ac cs.length cc,.slice ap ps.length cp,.slice av ss.length cv,.slice al ls.length cl,.int .i64 m] 83)=W0
 have HW0:=hide hW0
 have HD0:Hid (Dr g a len cap S w W0):=by rw [<-hW0];exact (Dr.refl hc).alloc _
 have HX:Hid (∀W,Tcs S W0 W->W.cell? ⟨w.heap.size,0,none⟩=some (.slice ac cs.length cc)/\W.cell? ⟨w.heap.size,1,none⟩=some (.slice ap ps.length cp)/\W.cell? ⟨w.heap.size,2,none⟩=some (.slice av ss.length cv)/\W.cell? ⟨w.heap.size,3,none⟩=some (.slice al ls.length cl)/\W.cell? ⟨w.heap.size,4,none⟩=some (.int .i64 m)):=fun W hW=>by rw [<-hW0] at hW;exact (box5 hW hL.s)
 have HLo:=hide hL
 have HGn:=hide fun W (h:Tcs S W0 W)=>HG.out.tcs (HD0.out.tcs.trans h)
 have HL0:Hid (Lo g a len S W0.heap.size):=hL.mono HD0.out.tcs.size
 have hlt0:w.heap.size<W0.heap.size:=by rw [<-hW0];simp
 clear hW0 hc hL
 go_enter Tryz.func32,Tryz.ntmps32
 go_upto_region 1 with fail
 rw [HW0.out]
 obtain ⟨x0,x1,x2,x3,x4⟩:=HX.out W0 (Tcs.refl _ _)
 have hCd:Cur g a len cap W0.drew:=HD0.out.cur.below (Below.refl _ _).drew
 have HCd:=hide hCd
 clear hCd
 go_region_held3 (fun W=>W.cell? ⟨w.heap.size,0,none⟩=some (.slice ac cs.length cc)/\W.cell? ⟨w.heap.size,1,none⟩=some (.slice ap ps.length cp)/\W.cell? ⟨w.heap.size,2,none⟩=some (.slice av ss.length cv)/\W.cell? ⟨w.heap.size,3,none⟩=some (.slice al ls.length cl)/\W.cell? ⟨w.heap.size,4,none⟩=some (.int .i64 m)) (go_simp)
  (first
  | (go_at_call 12;refine (below_any g a len cap S _ _ hl hS HCd.out (by omega)).mono ?_;rintro e w1 ⟨x,rfl,hx,hd1⟩;have HD1:Hid (Dr g a len cap S W0 w1):=⟨hd1.cur,((Tcs.refl S W0).drew).trans hd1.tcs⟩;obtain ⟨y0,y1,y2,y3,y4⟩:=HX.out w1 HD1.out.tcs;clear hd1)
  | (go_at_call 56;refine (expr_any g a len cap S hl (1+x).toNat (by omega) _ ⟨.slice ac cs.length cc,.slice ap ps.length cp,.slice av ss.length cv,.slice al ls.length cl,m,cs,ps,ss,ls⟩ K w1 (by simp only [IntKind.wrap_i64];omega) (HL0.out.mono HD1.out.tcs.size) HD1.out.cur (HGn.out _ HD1.out.tcs) hK).mono ?_;rintro e w2 ⟨u2,e2,rfl,hr2,hn2,hd2⟩;have HD2:Hid (Dr g a len cap S W0 w2):=HD1.out.trans hd2;have HR2:Hid (NRow W0.heap.size w2 u2 e2):=own_low hr2 HD1.out.tcs.size;have HN2:Hid (okN e2 345):=hn2.more (xpt3 hx);obtain ⟨z0,z1,z2,z3,z4⟩:=HX.out w2 HD2.out.tcs;clear hr2 hn2 hd2))
 clear x0 x1 x2 x3 x4 y0 y1 y2 y3 y4 HCd
 have HFin:Hid (∀w' u ns,NRow W0.heap.size w' u ns->okN ns 400->Dr g a len cap S W0 w'->NRow w.heap.size w' u ns/\okN ns 400/\Dr g a len cap S w w'):=fun w' u ns h1 h2 h3=>⟨own_low h1 HD0.out.tcs.size,h2,HD0.out.trans h3⟩
 go_wp2_with fail
 refine (once_any g a len cap S _ _ hl hS HD2.out.cur (by omega)).mono ?_
 rintro e w3 ⟨q,rfl,hd3⟩
 have HD3:Hid (Dr g a len cap S W0 w3):=HD2.out.trans hd3
 have HR3:Hid (NRow W0.heap.size w3 u2 e2):=own_tcs HR2.out hd3.tcs HL0.out.s
 clear hd3 z0 z1 z2 z3 z4
 cases q with
 | false=>
  have HF:=HFin.out w3 u2 e2 HR3.out (HN2.out.more (by omega)) HD3.out
  have HF':=hide HF
  clear HF
  go_wp2_with fail
  go_ret
  exact ⟨_,_,rfl,HF'.out.1,HF'.out.2.1,HF'.out.2.2⟩
 | true=>
  go_wp2_with fail
  go_loopw [5,6] (fun ov i wr=>∃j:Nat,j<=7/\i = .int .i64 j/\∃ns:List Nd,NRow W0.heap.size wr ov ns/\okN ns (345+2*j)/\Dr g a len cap S W0 wr) (fun _ i _=>8-(RowKit.intOf i).toNat)
  case atStart=>exact ⟨0,by omega,rfl,e2,HR3.out,HN2.out,HD3.out⟩
  case round=>
   obtain ⟨j,hj,rfl,ns,hr,hn,hdr⟩:=hrel
   have HR:=hide hr
   have HN:=hide hn
   have HDr:=hide hdr
   have hnl:ns.length<=359:=Nat.le_trans hn.1 (by omega)
   clear hr hn hdr
   go_wp2_with fail
   refine (below_any g a len cap S _ _ hl hS HDr.out.cur (by omega)).mono ?_
   rintro e w4 ⟨y,rfl,hy,hd4⟩
   have HD4:Hid (Dr g a len cap S W0 w4):=HDr.out.trans hd4
   have HR4:Hid (NRow W0.heap.size w4 _ ns):=own_tcs HR.out hd4.tcs HL0.out.s
   have hs4:W0.heap.size<=w4.heap.size:=HD4.out.tcs.size
   clear hd4
   by_cases hlt:(j:Int)<4+y
   ·obtain ⟨x0,x1,x2,x3,x4⟩:=HX.out w4 HD4.out.tcs
    go_wp2_with fail
    refine (leaf_any g a len cap S ⟨.slice ac cs.length cc,.slice ap ps.length cp,.slice av ss.length cv,.slice al ls.length cl,m,cs,ps,ss,ls⟩ K w4 hl (HL0.out.mono hs4) HD4.out.cur (HGn.out _ HD4.out.tcs) hK).mono ?_
    rintro e w5 ⟨u5,e5,rfl,hr5,hn5,hd5⟩
    have HD5:Hid (Dr g a len cap S W0 w5):=HD4.out.trans hd5
    have HN5:=hide hn5
    have hl5:e5.length<=1:=hn5.1
    have HK5:Hid (∀W,Tcs S w5 W->Nodes W u5 e5):=nrow_fz hr5 (HL0.out.mono hs4).s
    have HK4:Hid (∀W,Tcs S w5 W->Nodes W _ ns):=fun W hW=>nrow_fz HR4.out HL0.out.s W (hd5.tcs.trans hW)
    have hs5:W0.heap.size<=w5.heap.size:=HD5.out.tcs.size
    clear hr5 hn5 hd5 x0 x1 x2 x3 x4
    go_wp2_with fail
    refine (below_any g a len cap S _ _ hl hS (HD5.out.alloc _).cur (by omega)).mono ?_
    rintro e w6 ⟨z,rfl,hz,hd6⟩
    have HD6:Hid (Dr g a len cap S W0 w6):=(HD5.out.alloc _).trans hd6
    have hT6:Tcs S w5 w6:=((Tcs.refl S w5).alloc _).trans hd6.tcs
    have HK6:Hid (Nodes w6 u5 e5/\Nodes w6 _ ns):=⟨HK5.out w6 hT6,HK4.out w6 hT6⟩
    obtain ⟨zn,rfl⟩ : ∃zn:Nat,z=zn:=⟨z.toNat,by omega⟩
    obtain ⟨vz,hvz⟩:=lit4 hd6.tcs (HL0.out.mono hs5).s zn (by omega)
    clear hd6 hT6 HK5 HK4
    go_wp2_with fail
    refine (join_any e5 ns _ _ _ u5 _ _ HK6.out.1 HK6.out.2 (by omega)).mono ?_
    rintro e w7 ⟨u7,rfl,hr7,hb7⟩
    have HE:Hid (NRow W0.heap.size w7 u7 (e5++ns++[⟨7,vz,⟨#[]⟩⟩])/\okN (e5++ns++[⟨7,vz,⟨#[]⟩⟩]) (345+2*(j+1))/\Dr g a len cap S W0 w7):=⟨own_low hr7 HD6.out.tcs.size,okN.more ((HN5.out.app HN.out).app (okN.one (by decide))) (by omega),HD6.out.below hb7⟩
    clear hr7 hb7 hvz
    go_wp2_with fail
    go_roundw
    case rel=>exact ⟨j+1,by omega,by go_num,_,HE.out.1,HE.out.2.1,HE.out.2.2⟩
    case measure=>simp [RowKit.intOf];omega
   ·have HF:=HFin.out w4 _ ns HR4.out (HN.out.more (by omega)) HD4.out
    have HF':=hide HF
    clear HF
    go_wp2_with fail
    go_ret
    exact ⟨_,_,rfl,HF'.out.1,HF'.out.2.1,HF'.out.2.2⟩
end
section
open Go.RowKit
def S0 (g:Nat):Nat->Prop:=fun k=>k=g
def Sq (g q:Nat):Nat->Prop:=fun k=>k=g∨k=q
theorem s0q {g q:Nat} : ∀k,S0 g k->Sq g q k:=fun k h=>.inl h
structure GB (q:Nat) (w:World) (G:Gn):Prop where
 c0:w.cell? ⟨q,0,none⟩=some G.vc
 c1:w.cell? ⟨q,1,none⟩=some G.vp
 c2:w.cell? ⟨q,2,none⟩=some G.vs
 c3:w.cell? ⟨q,3,none⟩=some G.vl
 c4:w.cell? ⟨q,4,none⟩=some (.int .i64 G.m)
 fz : ∀j,w.frozen? ⟨q,j,none⟩=false
theorem GB.keep {q:Nat} {w w':World} {G:Gn} (h:GB q w G) (hb:w'.heap[q]? = w.heap[q]?):GB q w' G:=
 ⟨(World.cell?_of_block (a:=⟨q,0,none⟩) hb).trans h.c0,(World.cell?_of_block (a:=⟨q,1,none⟩) hb).trans h.c1,(World.cell?_of_block (a:=⟨q,2,none⟩) hb).trans h.c2,(World.cell?_of_block (a:=⟨q,3,none⟩) hb).trans h.c3,(World.cell?_of_block (a:=⟨q,4,none⟩) hb).trans h.c4,fun o=>(World.frozen?_of_block (a:=⟨q,o,none⟩) hb).trans (h.fz o)⟩
theorem GB.lt {q:Nat} {w:World} {G:Gn} (h:GB q w G):q<w.heap.size:=World.block_lt_of_cell? _ _ h.c0
theorem offN {g a b:Nat} (h:a≠b):(⟨g,a,none⟩:Addr)≠⟨g,b,none⟩:=fun e=>by simp [h] at e
theorem GB.set2 {q:Nat} {w:World} {G:Gn} (h:GB q w G) (v:Value) (ss:List ByteArray):GB q (w.setCell ⟨q,2,none⟩ v) {G with vs:=v,ss:=ss}:=
 ⟨(World.cell?_setCell_other _ _ _ _ (offN (by decide))).trans h.c0,(World.cell?_setCell_other _ _ _ _ (offN (by decide))).trans h.c1,World.cell?_setCell_same _ _ _ h.c2,(World.cell?_setCell_other _ _ _ _ (offN (by decide))).trans h.c3,(World.cell?_setCell_other _ _ _ _ (offN (by decide))).trans h.c4,fun o=>by simpa using h.fz o⟩
theorem GB.set3 {q:Nat} {w:World} {G:Gn} (h:GB q w G) (v:Value) (ls:List ByteArray):GB q (w.setCell ⟨q,3,none⟩ v) {G with vl:=v,ls:=ls}:=
 ⟨(World.cell?_setCell_other _ _ _ _ (offN (by decide))).trans h.c0,(World.cell?_setCell_other _ _ _ _ (offN (by decide))).trans h.c1,(World.cell?_setCell_other _ _ _ _ (offN (by decide))).trans h.c2,World.cell?_setCell_same _ _ _ h.c3,(World.cell?_setCell_other _ _ _ _ (offN (by decide))).trans h.c4,fun o=>by simpa using h.fz o⟩
theorem GB.set4 {q:Nat} {w:World} {G:Gn} (h:GB q w G) (z:Int):GB q (w.setCell ⟨q,4,none⟩ (.int .i64 z)) {G with m:=z}:=
 ⟨(World.cell?_setCell_other _ _ _ _ (offN (by decide))).trans h.c0,(World.cell?_setCell_other _ _ _ _ (offN (by decide))).trans h.c1,(World.cell?_setCell_other _ _ _ _ (offN (by decide))).trans h.c2,(World.cell?_setCell_other _ _ _ _ (offN (by decide))).trans h.c3,World.cell?_setCell_same _ _ _ h.c4,fun o=>by simpa using h.fz o⟩
structure GS (g:Nat) (a:Option Addr) (len cap q:Nat) (S:Nat->Prop) (w:World) (G:Gn) (K:Nat):Prop where
 cur:Cur g a len cap w
 box:GB q w G
 ok:GnOk S w G K
 lo:Lo g a len S w.heap.size
 sq:S q
 ne:q≠g
theorem GS.lo0 {g:Nat} {a:Option Addr} {len cap q:Nat} {S:Nat->Prop} {w:World} {G:Gn} {K:Nat} (h:GS g a len cap q S w G K):Lo g a len (S0 g) w.heap.size:=
 ⟨h.lo.gl,rfl,fun b off x y=>⟨(h.lo.by8 b off x y).1,fun e=>(h.lo.by8 b off x y).2 (e ▸ h.lo.sg)⟩,fun k hk=>h.lo.s k (hk ▸ h.lo.sg)⟩
theorem GS.s0 {g:Nat} {a:Option Addr} {len cap q:Nat} {S:Nat->Prop} {w:World} {G:Gn} {K:Nat} (h:GS g a len cap q S w G K) : ∀k,S0 g k->S k:=fun k hk=>hk ▸ h.lo.sg
theorem GS.sqs {g:Nat} {a:Option Addr} {len cap q:Nat} {S:Nat->Prop} {w:World} {G:Gn} {K:Nat} (h:GS g a len cap q S w G K) : ∀k,Sq g q k->S k:=fun k hk=>by rcases hk with rfl | rfl;exact h.lo.sg;exact h.sq
theorem GS.ok0 {g:Nat} {a:Option Addr} {len cap q:Nat} {S:Nat->Prop} {w:World} {G:Gn} {K:Nat} (h:GS g a len cap q S w G K):GnOk (S0 g) w G K:=h.ok.less h.s0
theorem GS.dr {g:Nat} {a:Option Addr} {len cap q:Nat} {S:Nat->Prop} {w w':World} {G:Gn} {K:Nat} (h:GS g a len cap q S w G K) (hd:Dr g a len cap (S0 g) w w'):GS g a len cap q S w' G K:=
 ⟨hd.cur,h.box.keep (hd.tcs.block q h.box.lt h.ne),h.ok.tcs (hd.tcs.mono h.s0),h.lo.mono hd.tcs.size,h.sq,h.ne⟩
theorem GS.below {g:Nat} {a:Option Addr} {len cap q:Nat} {S:Nat->Prop} {w w':World} {G:Gn} {K:Nat} (h:GS g a len cap q S w G K) (hb:Below w.heap.size w w'):GS g a len cap q S w' G K:=h.dr ⟨h.cur.below hb,hb.tcs⟩
theorem GS.alloc {g:Nat} {a:Option Addr} {len cap q:Nat} {S:Nat->Prop} {w:World} {G:Gn} {K:Nat} (h:GS g a len cap q S w G K) (o:Obj):GS g a len cap q S (w.alloc o) G K:=h.below ((Below.refl _ _).alloc (Nat.le_refl _) o)
def Sv (S:Nat->Prop) (v:Value):Nat->Prop:=fun k=>S k∨v.ownBlock=some k
theorem GS.add {g:Nat} {a:Option Addr} {len cap q:Nat} {S:Nat->Prop} {w0 w:World} {G:Gn} {K:Nat} {v:Value} (h:GS g a len cap q S w0 G K) (h':GS g a len cap q S w G K) (ht:Tcs S w0 w) (hv : ∀k,v.ownBlock=some k->w0.heap.size<=k/\k<w.heap.size):GS g a len cap q (Sv S v) w G K:=by
 refine ⟨h'.cur,h'.box,?_,⟨h'.lo.gl,.inl h'.lo.sg,fun b off x y=>⟨(h'.lo.by8 b off x y).1,fun e => ?_⟩,fun k hk => ?_⟩,.inl h'.sq,h'.ne⟩
 ·have key : ∀W,Tcs (Sv S v) w W->Tcs S w0 W:=fun W hW=>ht.next hW fun k hk=>by
   rcases hk with hk | hk
   ·exact .inl hk
   ·exact .inr (hv k hk).1
  exact ⟨fun W hW=>h.ok.c W (key W hW),fun W hW=>h.ok.p W (key W hW),fun W hW=>h.ok.s W (key W hW),fun W hW=>h.ok.l W (key W hW),h.ok.cp,h.ok.c4,h.ok.pb,h.ok.ns,h.ok.sl,h.ok.ll,h.ok.mb⟩
 ·rcases e with e | e
  ·exact (h'.lo.by8 b off x y).2 e
  ·have:=(hv b e).1
   have:=(h.lo.by8 b off x y).1
   omega
 ·rcases hk with hk | hk
  ·exact h'.lo.s k hk
  ·exact (hv k hk).2
theorem GS.app {g:Nat} {a:Option Addr} {len cap q:Nat} {S:Nat->Prop} {w w':World} {G:Gn} {K B:Nat} {v v':Value} (h:GS g a len cap q (Sv S v) w G K) (hL:Lo g a len S B) (hq:S q) (hv : ∀k,v.ownBlock=some k->B<=k) (ht:Tcs (fun k=>v.ownBlock=some k) w w') (hf : ∀k,v'.ownBlock=some k->v.ownBlock=some k∨w.heap.size<=k) (hlt : ∀k,v'.ownBlock=some k->k<w'.heap.size):GS g a len cap q (Sv S v') w' G K:=by
 have key : ∀W,Tcs (Sv S v') w' W->Tcs (Sv S v) w W:=fun W hW=>(ht.mono fun k hk=>.inr hk).next hW fun k hk=>by
  rcases hk with hk | hk
  ·exact .inl (.inl hk)
  ·rcases hf k hk with h1 | h1
   ·exact .inl (.inr h1)
   ·exact .inr h1
 have hqB:=hL.s q hq
 refine ⟨h.cur.new hL ht hv,h.box.keep (ht.block q h.box.lt (fun s=>by have:=hv q s;omega)),⟨fun W hW=>h.ok.c W (key W hW),fun W hW=>h.ok.p W (key W hW),fun W hW=>h.ok.s W (key W hW),fun W hW=>h.ok.l W (key W hW),h.ok.cp,h.ok.c4,h.ok.pb,h.ok.ns,h.ok.sl,h.ok.ll,h.ok.mb⟩,⟨?_,.inl hL.sg,fun b off x y=>⟨?_,fun e => ?_⟩,fun k hk => ?_⟩,.inl hq,h.ne⟩
 ·have:=h.lo.gl;have:=ht.size;omega
 ·have:=(h.lo.by8 b off x y).1;have:=ht.size;omega
 ·rcases e with e | e
  ·exact (h.lo.by8 b off x y).2 (.inl e)
  ·rcases hf b e with h1 | h1
   ·exact (h.lo.by8 b off x y).2 (.inr h1)
   ·have:=(h.lo.by8 b off x y).1;omega
 ·rcases hk with hk | hk
  ·have:=h.lo.s k (.inl hk);have:=ht.size;omega
  ·exact hlt k hk
theorem GS.sub {g:Nat} {a:Option Addr} {len cap q:Nat} {S S':Nat->Prop} {w:World} {G:Gn} {K:Nat} (h:GS g a len cap q S w G K) (hs : ∀k,S' k->S k) (hg:S' g) (hq:S' q):GS g a len cap q S' w G K:=
 ⟨h.cur,h.box,h.ok.less hs,⟨h.lo.gl,hg,fun b off x y=>⟨(h.lo.by8 b off x y).1,fun e=>(h.lo.by8 b off x y).2 (hs b e)⟩,fun k hk=>h.lo.s k (hs k hk)⟩,hq,h.ne⟩
theorem GS.drop {g:Nat} {a:Option Addr} {len cap q:Nat} {S:Nat->Prop} {w:World} {G:Gn} {K:Nat} {v:Value} (h:GS g a len cap q (Sv S v) w G K) (hg:S g) (hq:S q):GS g a len cap q S w G K:=
 ⟨h.cur,h.box,h.ok.less fun k hk=>.inl hk,⟨h.lo.gl,hg,fun b off x y=>⟨(h.lo.by8 b off x y).1,fun e=>(h.lo.by8 b off x y).2 (.inl e)⟩,fun k hk=>h.lo.s k (.inl hk)⟩,hq,h.ne⟩
theorem GS.more {g:Nat} {a:Option Addr} {len cap q:Nat} {S:Nat->Prop} {w:World} {G:Gn} {K K':Nat} (h:GS g a len cap q S w G K) (hk:K<=K'):GS g a len cap q S w G K':=⟨h.cur,h.box,h.ok.more hk,h.lo,h.sq,h.ne⟩
theorem GS.set {g:Nat} {a:Option Addr} {len cap q:Nat} {S:Nat->Prop} {w:World} {G G':Gn} {K K':Nat} {o:Nat} {v:Value} (h:GS g a len cap q S w G K) (hb:GB q (w.setCell ⟨q,o,none⟩ v) G') (hG:GnOk S w G' K'):GS g a len cap q S (w.setCell ⟨q,o,none⟩ v) G' K':=
 have ht:Tcs S w (w.setCell ⟨q,o,none⟩ v):=(Tcs.refl _ _).setCell (p:=⟨q,o,none⟩) h.sq v
 have ht2:Tcs (fun k=>k=q) w (w.setCell ⟨q,o,none⟩ v):=(Tcs.refl (fun k=>k=q) w).setCell (p:=⟨q,o,none⟩) rfl v
 ⟨h.cur.keep ht2 (fun e=>h.ne e.symm) (fun b off x y e=>(h.lo.by8 b off x y).2 (e ▸ h.sq)),hb,hG.tcs ht,h.lo.mono ht.size,h.sq,h.ne⟩
theorem set_sq {g q o:Nat} (w:World) (v:Value):Tcs (Sq g q) w (w.setCell ⟨q,o,none⟩ v):=(Tcs.refl _ _).setCell (p:=⟨q,o,none⟩) (.inr rfl) v
theorem GnOk.setM {S:Nat->Prop} {w:World} {G:Gn} {K:Nat} (h:GnOk S w G K):GnOk S w {G with m:=G.m+1} (K+1):=
 ⟨h.c,h.p,h.s,h.l,h.cp,h.c4,h.pb,h.ns,Nat.le_trans h.sl (Nat.le_succ _),Nat.le_trans h.ll (Nat.le_succ _),by have:=h.mb;show 0<=G.m+1/\G.m+1<=((K+1:Nat):Int);omega⟩
theorem GnOk.setS {S:Nat->Prop} {w:World} {G:Gn} {K:Nat} (h:GnOk S w G K) {v:Value} {ss:List ByteArray} (hs : ∀W,Tcs S w W->Strs W v ss) (hn : ∀x∈ss,x.size<=100000) (hl:ss.length<=K):GnOk S w {G with vs:=v,ss:=ss} K:=
 ⟨h.c,h.p,hs,h.l,h.cp,h.c4,h.pb,⟨h.ns.1,hn,h.ns.2.2⟩,hl,h.ll,h.mb⟩
theorem GnOk.setL {S:Nat->Prop} {w:World} {G:Gn} {K:Nat} (h:GnOk S w G K) {v:Value} {ls:List ByteArray} (hs : ∀W,Tcs S w W->Strs W v ls) (hn : ∀x∈ls,x.size<=100000) (hl:ls.length<=K):GnOk S w {G with vl:=v,ls:=ls} K:=
 ⟨h.c,h.p,h.s,hs,h.cp,h.c4,h.pb,⟨h.ns.1,h.ns.2.1,hn⟩,h.sl,hl,h.mb⟩
theorem tx_cat (s:ByteArray):((⟨#[118]⟩:ByteArray)++s).size=s.size+1:=by
 rw [ByteArray.size_append]
 show 1+s.size=_
 omega
theorem newName_any (g:Nat) (a:Option Addr) (len cap q:Nat) (S:Nat->Prop) (G:Gn) (K:Nat) (w:World) (h:GS g a len cap q S w G K) (hK:K+1<=50000) :
  Calls Tryz.prog 71 #[.pointer (some ⟨q,0,none⟩)] w fun e w'=>∃s,e = .returned (.string s)/\s.size<=100000/\GS g a len cap q S w' {G with m:=G.m+1} (K+1)/\Tcs (Sq g q) w w':=by
 have hm:=h.ok.mb
 obtain ⟨u,hu⟩ : ∃u:Nat,G.m+1=u:=⟨(G.m+1).toNat,by omega⟩
 have c4:=h.box.c4
 have f4:=h.box.fz 4
 have HU:=hide hu
 have HN:Hid (GS g a len cap q S (w.setCell ⟨q,4,none⟩ (.int .i64 (G.m+1))) {G with m:=G.m+1} (K+1)):=h.set (h.box.set4 _) h.ok.setM
 have HT:Hid (Tcs (Sq g q) w (w.setCell ⟨q,4,none⟩ (.int .i64 (G.m+1)))):=(Tcs.refl _ _).setCell (p:=⟨q,4,none⟩) (.inr rfl) _
 have HDg:Hid (∀W:World,Calls Tryz.prog 30 #[.int .i64 (G.m+1)] W fun e w'=>e = .returned (.string (tx (Lib.decDigits u)))/\Bl W w'):=fun W=>by rw [hu];exact digN_any u u (Nat.le_refl _) (by omega) W
 have hsz:(tx (Lib.decDigits u)).size<=50002:=by
  rw [tx_size]
  have:=dec_len u u (Nat.le_refl _)
  omega
 generalize tx (Lib.decDigits u)=A at hsz HDg
 have hsz':((A.size:Nat):Int)<=1000000:=by omega
 have HS:Hid (((⟨#[118]⟩:ByteArray)++A).size<=100000):=by show _<=_;rw [tx_cat];omega
 have h1:(⟨#[118]⟩:ByteArray).size=1:=rfl
 generalize G.m=m at *
 clear hu hsz h
 go_enter Tryz.func71,Tryz.ntmps71
 go_wp2_with fail
 refine (HDg.out _).mono ?_
 rintro e w2 ⟨rfl,hb2⟩
 have HF:Hid (GS g a len cap q S w2 {G with m:=m+1} (K+1)/\Tcs (Sq g q) w w2):=⟨HN.out.below hb2,HT.out.of_below hb2⟩
 clear hb2 c4 f4
 go_wp2_with fail
 go_ret
 exact ⟨_,rfl,HS.out,HF.out.1,HF.out.2⟩
end
section
open Go.RowKit
def PtS (R:List SV) (W:World):Prop:=∀x∈R,Nodes W x.ve x.s.e/\Nodes W x.vf x.s.f
def okS (R:List SV):Prop:=∀x∈R,okN x.s.e 3000/\okN x.s.f 3000/\x.s.name.size<=100000
structure SR (B:Nat) (w:World) (v:Value) (R:List SV) (L:Nat):Prop where
 row:DRow 94 6 (fun k=>k<B) B w v R.length (flatS R) (PtS R)
 ok:okS R
 len:R.length<=L
theorem SR.tcs {S:Nat->Prop} {B:Nat} {w w':World} {v:Value} {R:List SV} {L:Nat} (h:SR B w v R L) (ht:Tcs S w w') (hS : ∀k,S k->k<B):SR B w' v R L:=⟨h.row.tcs (ht.mono hS) (fun k hk=>hk),h.ok,h.len⟩
theorem SR.below {B:Nat} {w w':World} {v:Value} {R:List SV} {L:Nat} (h:SR B w v R L) (hb:Below w.heap.size w w'):SR B w' v R L:=⟨h.row.below hb,h.ok,h.len⟩
theorem SR.low {B B':Nat} {w:World} {v:Value} {R:List SV} {L:Nat} (h:SR B w v R L) (hb:B'<=B):SR B' w v R L:=⟨(h.row.low hb).less (fun k hk=>by omega),h.ok,h.len⟩
theorem SR.more {B:Nat} {w:World} {v:Value} {R:List SV} {L L':Nat} (h:SR B w v R L) (hl:L<=L'):SR B w v R L':=⟨h.row,h.ok,Nat.le_trans h.len hl⟩
theorem SR.shape {B:Nat} {w:World} {v:Value} {R:List SV} {L:Nat} (h:SR B w v R L) : ∃a c,v = .slice a R.length c:=by
 obtain ⟨a,c,e,-⟩:=own_shape h.row.row
 exact ⟨a,c,e⟩
theorem SR.rng {B:Nat} {w:World} {v:Value} {R:List SV} {L:Nat} (h:SR B w v R L) : ∀k,v.ownBlock=some k->B<=k/\k<w.heap.size:=fun k hk=>World.ownsRow.lt h.row.row k hk
theorem sr_nil (w:World) (B:Nat) (hB:B<=w.heap.size):SR B (w.alloc (.cells #[] 94)) (.slice (some ⟨w.heap.size,0,none⟩) 0 0) [] 0:=
 ⟨⟨World.ownsRow_lit w #[] 0 hB (by decide) rfl,fun W _ x hx=>by cases hx⟩,(fun x hx=>by cases hx),Nat.le_refl _⟩
theorem nodes_none (W:World):Nodes W (.slice none 0 0) []:=⟨none,0,rfl,Nat.le_refl _,by omega,fun h=>absurd h (Nat.lt_irrefl _)⟩
theorem nrow_st {B B':Nat} {w:World} {v:Value} {e:List Nd} (h:NRow B w v e) (hb:B'<=B) : ∀W,Tcs (fun k=>k<B') w W->Nodes W v e:=nrow_fz h (fun k hk=>by omega)
theorem sr_lit {w:World} {B:Nat} {ve vf:Value} {kd th el:Int} {nm:ByteArray} {e f:List Nd} (hB:B<=w.heap.size) (hE : ∀W,Tcs (fun k=>k<B) w W->Nodes W ve e) (hF : ∀W,Tcs (fun k=>k<B) w W->Nodes W vf f) (oe:okN e 3000) (of':okN f 3000) (on:nm.size<=100000) :
  SR B (w.alloc (.cells #[.int .i64 kd,.string nm,ve,vf,.int .i64 th,.int .i64 el] 94)) (.slice (some ⟨w.heap.size,0,none⟩) 1 1) [⟨⟨kd,nm,e,f,th,el⟩,ve,vf,[],[]⟩] 1:=by
 refine ⟨⟨World.ownsRow_lit w #[.int .i64 kd,.string nm,ve,vf,.int .i64 th,.int .i64 el] 1 hB (by decide) rfl,fun W hW x hx => ?_⟩,fun x hx => ?_,Nat.le_refl _⟩
 ·simp only [List.mem_singleton] at hx
  subst hx
  have ht:Tcs (fun k=>k<B) w W:=((Tcs.refl _ w).alloc _).next hW fun k hk=>by
   rcases hk with hk | hk
   ·exact .inl hk
   ·simp only [Value.ownBlock,Option.some.injEq] at hk
    exact .inr (by omega)
  exact ⟨hE W ht,hF W ht⟩
 ·simp only [List.mem_singleton] at hx
  subst hx
  exact ⟨oe,of',on⟩
theorem sr_app {w:World} {B B2:Nat} {v u:Value} {R R2:List SV} {L L2:Nat} (ty:TypeId) (h:SR B w v R L) (h2:SR B2 w u R2 L2) (hB:B<=w.heap.size) (hm:L+L2<=1000000)
  (hP2 : ∀W,Tcs (fun k=>k<B∨v.ownBlock=some k) w W->PtS R2 W) :
  ∃v' w',(Builtin.append_ #[84,84] ty #[v,u]).run Tryz.prog w = .ok v' w'/\SR B w' v' (R++R2) (L+L2)/\Tcs (fun k=>v.ownBlock=some k) w w'/\∀k,v'.ownBlock=some k->v.ownBlock=some k∨w.heap.size<=k:=by
 obtain ⟨i0,hi,hz0,hz1,hz2⟩:=info_parts info_stmt
 obtain ⟨a,c,rfl,hn,hc⟩:=own_shape h2.row.row
 have hlen:=h.len
 have hlen2:=h2.len
 obtain ⟨v',w',r1,r2,r3⟩:=drow_app (Pg:=Tryz.prog) (w:=w) (T:=94) (t:=84) (c:=c) (P2:=PtS R2) ty Tryz.underlying84 hi hz0 hz1 hz2 rfl (by decide) h.row a hn (flatS_len R2) hc (flatS_one R2 fun q hq=>⟨(h2.row.now q hq).1.cell1,(h2.row.now q hq).2.cell1⟩) hP2 (by omega) (by decide) hB
 refine ⟨v',w',r1,⟨⟨by rw [l_a,flatS_append];exact r2.row,fun W hW x hx => ?_⟩,fun x hx => ?_,by rw [l_a];omega⟩,r3⟩
 ·rcases List.mem_append.1 hx with hx | hx
  ·exact (r2.st W hW).1 x hx
  ·exact (r2.st W hW).2 x hx
 ·rcases List.mem_append.1 hx with hx | hx
  ·exact h.ok x hx
  ·exact h2.ok x hx
theorem sr_behind {w:World} {B B2:Nat} {u v:Value} {R2:List SV} {L2:Nat} (h2:SR B2 w u R2 L2) (hB:B<=B2) (hv : ∀k,v.ownBlock=some k->k<B2) : ∀W,Tcs (fun k=>k<B∨v.ownBlock=some k) w W->PtS R2 W:=fun W hW=>
 h2.row.st W (hW.mono fun k hk=>by
  rcases hk with hk | hk
  ·exact .inl (by omega)
  ·exact .inl (hv k hk))
theorem sr_before {w1 w:World} {B B2:Nat} {u v:Value} {R2:List SV} {L2:Nat} (h2:SR B2 w1 u R2 L2) (ht:Tcs (fun k=>k<B2) w1 w) (hB:B<=B2) (hv : ∀k,v.ownBlock=some k->w1.heap.size<=k) : ∀W,Tcs (fun k=>k<B∨v.ownBlock=some k) w W->PtS R2 W:=fun W hW=>
 h2.row.st W ((ht.mono fun k hk=>.inl hk).next hW fun k hk=>by
  rcases hk with hk | hk
  ·exact .inl (.inl (by omega))
  ·exact .inr (hv k hk))
def StP (g:Nat) (a:Option Addr) (len cap q:Nat) (S:Nat->Prop) (K L m:Nat) (w:World) (v:Value) (w':World):Prop:=∃R G',SR w.heap.size w' v R L/\m<=R.length/\GS g a len cap q (Sv S v) w' G' (K+L)/\Tcs (Sq g q) w w'
def StC (g:Nat) (a:Option Addr) (len cap q d:Nat):Prop:=∀(z:Int) (S:Nat->Prop) (G:Gn) (K:Nat) (w:World),z=d->GS g a len cap q S w G K->K+dpt d<=50000 ->
  Calls Tryz.prog 55 #[.pointer (some ⟨g,0,none⟩),.pointer (some ⟨q,0,none⟩),.int .i64 z] w fun e w'=>∃v,e = .returned v/\StP g a len cap q S K (dpt d) 1 w v w'
end
section
open Go.RowKit
end
section
open Go.RowKit
theorem dpt_le {d:Nat} (h:d<=4):1<=dpt d/\dpt d<=511:=by
 have:d=0∨d=1∨d=2∨d=3∨d=4:=by omega
 rcases this with rfl | rfl | rfl | rfl | rfl <;> decide
theorem block_any (g:Nat) (a:Option Addr) (len cap q d:Nat) (hd:d<=4) (hX:StC g a len cap q d) (n:Nat) (hn:n<=10) (zn zd:Int) (hzn:zn=n) (hzd:zd=d) (S:Nat->Prop) (G:Gn) (K:Nat) (w:World) (h:GS g a len cap q S w G K) (hK:K+n*dpt d<=50000) :
  Calls Tryz.prog 31 #[.pointer (some ⟨g,0,none⟩),.pointer (some ⟨q,0,none⟩),.int .i64 zn,.int .i64 zd] w fun e w'=>∃v,e = .returned v/\StP g a len cap q S K (n*dpt d) n w v w':=by
 have hdb:=dpt_le hd
 obtain ⟨D,hD⟩ : ∃D,D=dpt d:=⟨_,rfl⟩
 have HX:Hid (∀(S:Nat->Prop) (G:Gn) (K:Nat) (w:World),GS g a len cap q S w G K->K+D<=50000->Calls Tryz.prog 55 #[.pointer (some ⟨g,0,none⟩),.pointer (some ⟨q,0,none⟩),.int .i64 zd] w fun e w'=>∃v,e = .returned v/\StP g a len cap q S K D 1 w v w'):=fun S G K w h hk=>by rw [hD] at hk ⊢;exact hX zd S G K w hzd h hk
 rw [<-hD] at hdb hK ⊢
 have HS:Hid (∀W,Tcs S w W->Strs W G.vs G.ss):=h.ok.s
 have HSn:Hid (∀x∈G.ss,x.size<=100000):=h.ok.ns.2.1
 have HSl:Hid (G.ss.length<=K):=h.ok.sl
 have HL:Hid (Lo g a len S w.heap.size):=h.lo
 have HSq:Hid (S q):=h.sq
 have HSS:Hid (∀k,Sq g q k->S k):=h.sqs
 have HG0:Hid (GS g a len cap q (Sv S (.slice (some ⟨w.heap.size,0,none⟩) 0 0)) (w.alloc (.cells #[] 94)) G K):=h.add (h.alloc _) ((Tcs.refl _ _).alloc _) (fun k hk=>by simp [Value.ownBlock] at hk;subst hk;simp)
 have c2:(w.alloc (.cells #[] 94)).cell? ⟨q,2,none⟩=some G.vs:=(h.alloc _).box.c2
 have c2':w.cell? ⟨q,2,none⟩=some G.vs:=h.box.c2
 have hql:q<w.heap.size:=h.box.lt
 obtain ⟨avs,cvs,hvs,-⟩:=h.ok.s w (Tcs.refl _ _)
 have HV:=hide hvs
 rw [hvs] at c2 c2'
 obtain ⟨sl,hsl⟩ : ∃sl,sl=G.ss.length:=⟨_,rfl⟩
 rw [<-hsl] at c2 c2'
 have HV':Hid (G.vs = .slice avs sl cvs):=by rw [hsl];exact hvs
 have hzn0:0<=zn/\zn<=10:=by omega
 have HZn:=hide hzn
 clear hvs h hX hD hsl hzn hzd
 go_enter Tryz.func31,Tryz.ntmps31
 go_wp2_with fail
 go_loopw [9,11,12] (fun ov i mr wr=>∃j:Nat,j<=n/\i = .int .i64 j/\∃(R:List SV) (G':Gn),SR w.heap.size wr ov R (j*D)/\j<=R.length/\GS g a len cap q (Sv S ov) wr G' (K+j*D)/\Tcs (Sq g q) w wr) (fun _ i _ _=>n-(RowKit.intOf i).toNat)
 case atStart=>exact ⟨0,by omega,rfl,[],G,by rw [Nat.zero_mul];exact sr_nil w w.heap.size (Nat.le_refl _),by simp,by rw [Nat.zero_mul];exact HG0.out,(Tcs.refl _ _).alloc _⟩
 case round=>
  obtain ⟨j,hj,rfl,R,G',hr,hjl,hg,ht⟩:=hrel
  have HR:=hide hr
  have HGj:=hide hg
  have HT:=hide ht
  have HJ:=hide hjl
  clear hr hg ht hjl c2 c2' HG0
  by_cases hlt:(j:Int)<zn
  ·have hmul:(j+1)*D<=n*D:=Nat.mul_le_mul_right _ (by have:=HZn.out;omega)
   have HM:Hid ((j+1)*D=j*D+D):=Nat.succ_mul j D
   have hnD:n*D<=10*511:=Nat.mul_le_mul hn hdb.2
   have hkk:K+j*D+D<=50000:=by have:=HM.out;omega
   have hjD:j*D+D<=1000000:=by have:=HM.out;omega
   clear hmul hnD
   go_wp2_with fail
   refine (HX.out (Sv S u9) G' (K+j*D) wr HGj.out hkk).mono ?_
   rintro e w2 ⟨u2,rfl,R2,G2,hr2,hl2,hg2,ht2⟩
   have hR':=HR.out.tcs ht2 (fun k hk=>HL.out.s k (HSS.out k hk))
   obtain ⟨v3,w3,r3,h3,t3,f3⟩:=sr_app 84 hR' hr2 (Nat.le_trans HT.out.size ht2.size) hjD (sr_behind hr2 HT.out.size (fun k hk=>(HR.out.rng k hk).2))
   have HE:Hid (SR w.heap.size w3 v3 (R++R2) ((j+1)*D)/\j+1<=(R++R2).length/\GS g a len cap q (Sv S v3) w3 G2 (K+(j+1)*D)/\Tcs (Sq g q) w w3):=by
    refine ⟨by rw [HM.out];exact h3,by rw [l_a];have:=HJ.out;omega,?_,(HT.out.trans ht2).next t3 (fun k hk=>.inr (HR.out.rng k hk).1)⟩
    rw [HM.out,<-Nat.add_assoc]
    exact (hg2.drop (.inl HL.out.sg) (.inl HSq.out)).app HL.out HSq.out (fun k hk=>(HR.out.rng k hk).1) t3 f3 (fun k hk=>(h3.rng k hk).2)
   have Hr3:=hide r3
   clear hr2 hl2 hg2 ht2 hR' r3 h3 t3 f3
   go_wp2_with (at_builtin;refine wpList_appG rfl _ _ _ rfl _ _ _ _ rfl rfl Hr3.out ?_)
   go_roundw
   case rel=>exact ⟨j+1,by have:=HZn.out;omega,by go_num,R++R2,G2,HE.out.1,HE.out.2.1,HE.out.2.2.1,HE.out.2.2.2⟩
   case measure=>have:=HZn.out;simp [RowKit.intOf];omega
  ·obtain rfl:j=n:=by have:=HZn.out;omega
   have c2:=HGj.out.box.c2
   have f2:=HGj.out.box.fz 2
   have HF:Hid (SR w.heap.size (wr.setCell ⟨q,2,none⟩ (.slice avs sl cvs)) u9 R (j*D)/\GS g a len cap q (Sv S u9) (wr.setCell ⟨q,2,none⟩ (.slice avs sl cvs)) {G' with vs:=(.slice avs sl cvs),ss:=G.ss} (K+j*D)/\Tcs (Sq g q) w (wr.setCell ⟨q,2,none⟩ (.slice avs sl cvs))):=by
    have ht:Tcs (Sq g q) wr (wr.setCell ⟨q,2,none⟩ (.slice avs sl cvs)):=set_sq wr _
    have hgd:=HGj.out
    refine ⟨HR.out.tcs ht (fun k hk=>HL.out.s k (HSS.out k hk)),hgd.set (hgd.box.set2 _ _) (hgd.ok.setS (fun W hW => ?_) HSn.out (by have:=HSl.out;omega)),HT.out.trans ht⟩
    have:=HS.out W ((HT.out.mono HSS.out).next hW fun k hk=>by
     rcases hk with hk | hk
     ·exact .inl hk
     ·exact .inr (HR.out.rng k hk).1)
    rwa [HV'.out] at this
   generalize G'.vs=old at c2
   clear HGj
   go_wp2_with fail
   go_ret
   exact ⟨_,rfl,R,_,HF.out.1,HJ.out,HF.out.2.1,HF.out.2.2⟩
end
section
open Go.RowKit
theorem okN.e3 {e:List Nd} {L:Nat} (h:okN e L) (hl:L<=3000):okN e 3000:=h.more hl
theorem one_fin {g:Nat} {a:Option Addr} {len cap q:Nat} {S:Nat->Prop} {K L:Nat} {w w2:World} {G2:Gn} {ve vf:Value} {e f:List Nd} (kd th el:Int) (nm:ByteArray) (h2:GS g a len cap q S w2 G2 (K+L)) (ht:Tcs (Sq g q) w w2) (hE : ∀W,Tcs (fun k=>k<w.heap.size) w2 W->Nodes W ve e) (hF : ∀W,Tcs (fun k=>k<w.heap.size) w2 W->Nodes W vf f) (oe:okN e 3000) (of':okN f 3000) (on:nm.size<=100000) (hL:1<=L) :
  StP g a len cap q S K L 1 w (.slice (some ⟨w2.heap.size,0,none⟩) 1 1) (w2.alloc (.cells #[.int .i64 kd,.string nm,ve,vf,.int .i64 th,.int .i64 el] 94)):=
 ⟨_,G2,(sr_lit ht.size hE hF oe of' on).more hL,Nat.le_refl _,h2.add (h2.alloc _) ((Tcs.refl _ _).alloc _) (fun k hk=>by simp [Value.ownBlock] at hk;subst hk;simp),ht.alloc _⟩
theorem GS.strs {g:Nat} {a:Option Addr} {len cap q:Nat} {S:Nat->Prop} {w:World} {G:Gn} {K:Nat} (h:GS g a len cap q S w G K) : ∃a c,G.vs = .slice a G.ss.length c:=by
 obtain ⟨a,c,e,-⟩:=h.ok.s w (Tcs.refl _ _)
 exact ⟨a,c,e⟩
theorem set_any (g:Nat) (a:Option Addr) (len cap q:Nat) (hl:len<=1048576) (S:Nat->Prop) (G:Gn) (K L:Nat) (hL1:1<=L) (w:World) (h:GS g a len cap q S w G K) (hK:K<=50000) :
  Calls Tryz.prog 72 #[.pointer (some ⟨g,0,none⟩),.pointer (some ⟨q,0,none⟩)] w fun e w'=>∃v,e = .returned v/\StP g a len cap q S K L 1 w v w':=by
 have HG:=hide h
 obtain ⟨av,cv,hv⟩:=h.strs
 have HV:=hide hv
 obtain ⟨sl,hsl⟩ : ∃sl,sl=G.ss.length:=⟨_,rfl⟩
 have HSl:=hide hsl
 have hsK:sl<=K:=by rw [hsl];exact h.ok.sl
 have hS0:S0 g g:=rfl
 clear h hv hsl
 go_enter Tryz.func72,Tryz.ntmps72
 go_wp2_with fail
 refine (pick_any g a len cap (S0 g) [⟨#[103]⟩,⟨#[104]⟩] _ _ hl hS0 (HG.out.alloc _).cur (lit_fz _ _ 2 rfl rfl (by decide) HG.out.lo0.s) (by decide)).mono ?_
 rintro e w1 ⟨nm,hn,rfl,hd1⟩
 have HG1:Hid (GS g a len cap q S w1 G K):=(HG.out.alloc _).dr hd1
 have HT1:Hid (Tcs (Sq g q) w w1):=((Tcs.refl _ _).alloc _).trans (hd1.tcs.mono s0q)
 have HNm:Hid (nm.size<=100000):=by
  show _<=_
  simp at hn
  rcases hn with rfl | rfl <;> decide
 have c2:w1.cell? ⟨q,2,none⟩=some (.slice av sl cv):=by have:=HG1.out.box.c2;rw [HV.out,<-HSl.out] at this;exact this
 clear hd1 hn
 by_cases hs:0<sl
 rotate_left 1
 ·have hs' : ¬(0:Int)<(sl:Int):=by omega
  have c3:=HG1.out.box.c3
  go_wp2_with fail
  generalize w1=wx at *
  generalize nm=nx at *
  have HGx:Hid (GS g a len cap q S wx G K):=HG1.out
  have HTx:Hid (Tcs (Sq g q) w wx):=HT1.out
  have HNx:Hid (nx.size<=100000):=HNm.out
  clear HG1 HT1 HNm c2
  all_goals (
   have hlsl:G.ls.length<=10000000:=Nat.le_trans HGx.out.ok.ll (by omega)
   refine (l3in_any G.ls G.vl nx wx hlsl (HGx.out.ok.l wx (Tcs.refl _ _))).mono ?_
   rintro e w4 ⟨rfl,hb4⟩
   have HG4:Hid (GS g a len cap q S w4 G K):=HGx.out.below hb4
   have HT4:Hid (Tcs (Sq g q) w w4):=HTx.out.of_below hb4
   have x0:=HG4.out.box.c0
   have x1:=HG4.out.box.c1
   have x2:=HG4.out.box.c2
   have x3:=HG4.out.box.c3
   have x4:=HG4.out.box.c4
   generalize inS G.ls nx=bb
   clear hb4 c3
   cases bb
   all_goals (
    go_wp2_with fail
    refine (whole_any g a len cap (S0 g) G K w4 hl HG4.out.lo0 HG4.out.cur HG4.out.ok0 hK).mono ?_
    rintro e w5 ⟨u5,e5,rfl,hr5,hn5,hd5⟩
    obtain ⟨a5,c5,rfl,-⟩:=own_shape hr5
    have HF:=fun (nm:ByteArray) (on:nm.size<=100000)=>one_fin (L:=L) 2 0 0 nm ((HG4.out.dr hd5).more (Nat.le_add_right _ _)) (HT4.out.trans (hd5.tcs.mono s0q)) (nrow_st hr5 HT4.out.size) (fun W _=>nodes_none W) (hn5.e3 (by omega)) (okN.nil.more (Nat.zero_le _)) on hL1
    have HF':=hide HF
    clear HF hr5 hn5 hd5 x0 x1 x2 x3 x4
    generalize e5.length=l5 at HF' ⊢
    go_wp2_with fail
    go_ret
    first
    | exact ⟨_,rfl,HF'.out _ HNx.out⟩
    | exact ⟨_,rfl,HF'.out _ (by decide)⟩))
 ·have hs':(0:Int)<(sl:Int):=by omega
  go_wp2_with fail
  refine (below_any g a len cap (S0 g) _ _ hl hS0 HG1.out.cur (by omega)).mono ?_
  rintro e w2 ⟨y,rfl,hy,hd2⟩
  have HG2:Hid (GS g a len cap q S w2 G K):=HG1.out.dr hd2
  have HT2:Hid (Tcs (Sq g q) w w2):=HT1.out.trans (hd2.tcs.mono s0q)
  have c2':w2.cell? ⟨q,2,none⟩=some (.slice av sl cv):=by have:=HG2.out.box.c2;rw [HV.out,<-HSl.out] at this;exact this
  clear hd2 c2
  by_cases hy0:0<y
  ·go_wp2_with fail
   have HP:Hid (∀W,Tcs (S0 g) w2 W->Strs W (.slice av sl cv) G.ss):=fun W hW=>by have:=HG2.out.ok0.s W hW;rw [HV.out,<-HSl.out] at this;exact this
   refine (pick_any g a len cap (S0 g) G.ss _ w2 hl hS0 HG2.out.cur HP.out ⟨by rw [<-HSl.out];omega,by rw [<-HSl.out];omega⟩).mono ?_
   rintro e wx ⟨nx,hn,rfl,hd3⟩
   have HGx:Hid (GS g a len cap q S wx G K):=HG2.out.dr hd3
   have HTx:Hid (Tcs (Sq g q) w wx):=HT2.out.trans (hd3.tcs.mono s0q)
   have HNx:Hid (nx.size<=100000):=HG2.out.ok.ns.2.1 nx hn
   have c3:=HGx.out.box.c3
   clear hd3 hn c2' HP HG2 HT2 HG1 HT1
   go_wp2_with fail
   all_goals (
    have hlsl:G.ls.length<=10000000:=Nat.le_trans HGx.out.ok.ll (by omega)
    refine (l3in_any G.ls G.vl nx wx hlsl (HGx.out.ok.l wx (Tcs.refl _ _))).mono ?_
    rintro e w4 ⟨rfl,hb4⟩
    have HG4:Hid (GS g a len cap q S w4 G K):=HGx.out.below hb4
    have HT4:Hid (Tcs (Sq g q) w w4):=HTx.out.of_below hb4
    have x0:=HG4.out.box.c0
    have x1:=HG4.out.box.c1
    have x2:=HG4.out.box.c2
    have x3:=HG4.out.box.c3
    have x4:=HG4.out.box.c4
    generalize inS G.ls nx=bb
    clear hb4 c3
    cases bb
    all_goals (
     go_wp2_with fail
     refine (whole_any g a len cap (S0 g) G K w4 hl HG4.out.lo0 HG4.out.cur HG4.out.ok0 hK).mono ?_
     rintro e w5 ⟨u5,e5,rfl,hr5,hn5,hd5⟩
     obtain ⟨a5,c5,rfl,-⟩:=own_shape hr5
     have HF:=fun (nm:ByteArray) (on:nm.size<=100000)=>one_fin (L:=L) 2 0 0 nm ((HG4.out.dr hd5).more (Nat.le_add_right _ _)) (HT4.out.trans (hd5.tcs.mono s0q)) (nrow_st hr5 HT4.out.size) (fun W _=>nodes_none W) (hn5.e3 (by omega)) (okN.nil.more (Nat.zero_le _)) on hL1
     have HF':=hide HF
     clear HF hr5 hn5 hd5 x0 x1 x2 x3 x4
     generalize e5.length=l5 at HF' ⊢
     go_wp2_with fail
     go_ret
     first
     | exact ⟨_,rfl,HF'.out _ HNx.out⟩
     | exact ⟨_,rfl,HF'.out _ (by decide)⟩))
  ·have c3:=HG2.out.box.c3
   go_wp2_with fail
   generalize w2=wx at *
   generalize nm=nx at *
   have HGx:Hid (GS g a len cap q S wx G K):=HG2.out
   have HTx:Hid (Tcs (Sq g q) w wx):=HT2.out
   have HNx:Hid (nx.size<=100000):=HNm.out
   clear HG1 HT1 HNm c2' HG2 HT2
   all_goals (
    have hlsl:G.ls.length<=10000000:=Nat.le_trans HGx.out.ok.ll (by omega)
    refine (l3in_any G.ls G.vl nx wx hlsl (HGx.out.ok.l wx (Tcs.refl _ _))).mono ?_
    rintro e w4 ⟨rfl,hb4⟩
    have HG4:Hid (GS g a len cap q S w4 G K):=HGx.out.below hb4
    have HT4:Hid (Tcs (Sq g q) w w4):=HTx.out.of_below hb4
    have x0:=HG4.out.box.c0
    have x1:=HG4.out.box.c1
    have x2:=HG4.out.box.c2
    have x3:=HG4.out.box.c3
    have x4:=HG4.out.box.c4
    generalize inS G.ls nx=bb
    clear hb4 c3
    cases bb
    all_goals (
     go_wp2_with fail
     refine (whole_any g a len cap (S0 g) G K w4 hl HG4.out.lo0 HG4.out.cur HG4.out.ok0 hK).mono ?_
     rintro e w5 ⟨u5,e5,rfl,hr5,hn5,hd5⟩
     obtain ⟨a5,c5,rfl,-⟩:=own_shape hr5
     have HF:=fun (nm:ByteArray) (on:nm.size<=100000)=>one_fin (L:=L) 2 0 0 nm ((HG4.out.dr hd5).more (Nat.le_add_right _ _)) (HT4.out.trans (hd5.tcs.mono s0q)) (nrow_st hr5 HT4.out.size) (fun W _=>nodes_none W) (hn5.e3 (by omega)) (okN.nil.more (Nat.zero_le _)) on hL1
     have HF':=hide HF
     clear HF hr5 hn5 hd5 x0 x1 x2 x3 x4
     generalize e5.length=l5 at HF' ⊢
     go_wp2_with fail
     go_ret
     first
     | exact ⟨_,rfl,HF'.out _ HNx.out⟩
     | exact ⟨_,rfl,HF'.out _ (by decide)⟩))
end
section
open Go.RowKit
theorem sc_app (w : World) (v : Value) (ss : List ByteArray) (nm : ByteArray) (h : Strs w v ss) (hl : ss.length ≤ 100000) (ty : TypeId) :
  ∃ v1 w1 a2 n2 c2 w2, (Builtin.append_ #[73, 73] ty #[.slice (some ⟨w.heap.size, 0, none⟩) 0 0, v]).run Tryz.prog (w.alloc (.cells #[] 9)) = .ok v1 w1 ∧ (Builtin.append_ #[73, 73] ty #[v1, .slice (some ⟨w1.heap.size, 0, none⟩) 1 1]).run Tryz.prog (w1.alloc (.cells #[.string nm] 9)) = .ok (.slice a2 n2 c2) w2 ∧ w2.ownsRow w.heap.size 9 1 (.slice a2 n2 c2) (ss ++ [nm]).length ((ss ++ [nm]).map Value.string) ∧ Below w.heap.size w w2 := by
 obtain ⟨i0, hi, hz0, hz1, hz2⟩ := info_parts info_str
 have hb0 : Below w.heap.size w (w.alloc (.cells #[] 9)) := (Below.refl _ _).alloc (Nat.le_refl _) _
 have h0 : (w.alloc (.cells #[] 9)).ownsRow w.heap.size 9 1 (.slice (some ⟨w.heap.size, 0, none⟩) 0 0) 0 [] := World.ownsRow_lit w #[] 0 (Nat.le_refl _) (by decide) rfl
 obtain ⟨a, c, rfl, hn, hc⟩ := (h.below hb0).src
 obtain ⟨v1, w1, r1, o1, g1, -⟩ := run_appG (P := Tryz.prog) (w := w.alloc (.cells #[] 9)) w.heap.size 73 ty 9 i0 _ 1 16 Tryz.underlying73 hi hz0 hz1 hz2 rfl (by decide) _ 0 [] h0 a ss.length c (ss.map Value.string) (fun e => by rw [hn e]; rfl) (by simp) hc (fun u hu => by obtain ⟨x, -, rfl⟩ := List.mem_map.1 hu; rfl) (by omega) (by decide) hb0.size
 have hb1 : Below w.heap.size w w1 := hb0.grown g1 hb0.size (fun j hj => (World.ownsRow.lt h0 j hj).1)
 have hb2 : Below w.heap.size w (w1.alloc (.cells #[.string nm] 9)) := hb1.alloc hb1.size _
 have o1' := ownB o1 ((Below.refl w1.heap.size w1).alloc (Nat.le_refl _) (.cells #[.string nm] 9))
 have hlit : (w1.alloc (.cells #[.string nm] 9)).ownsRow w1.heap.size 9 1 (.slice (some ⟨w1.heap.size, 0, none⟩) 1 1) 1 [.string nm] := World.ownsRow_lit w1 #[.string nm] 1 (Nat.le_refl _) (by decide) rfl
 obtain ⟨v2, w2, r2, o2, g2, -⟩ := run_appG (P := Tryz.prog) (w := w1.alloc (.cells #[.string nm] 9)) w.heap.size 73 ty 9 i0 _ 1 16 Tryz.underlying73 hi hz0 hz1 hz2 rfl (by decide) v1 _ _ o1' (some ⟨w1.heap.size, 0, none⟩) 1 1 [.string nm] (fun e => by cases e) rfl (fun ad had j u hu => by cases had; exact World.ownsRow.cells hlit (g := w1.heap.size) rfl j u hu) (fun u hu => by simp at hu; subst hu; rfl) (by omega) (by decide) hb2.size
 obtain ⟨a2, c2, rfl, -⟩ := own_shape o2
 refine ⟨v1, w1, a2, _, c2, w2, r1, r2, ?_, hb2.grown g2 hb2.size (fun j hj => (World.ownsRow.lt o1' j hj).1)⟩
 have e1 : (ss ++ [nm]).length = 0 + ss.length + 1 := by simp
 have e2 : (ss ++ [nm]).map Value.string = [] ++ ss.map Value.string ++ [.string nm] := by simp
 rw [e1, e2]
 exact o2
theorem nrow_lit3 (w : World) (B : Nat) (hB : B ≤ w.heap.size) (k1 v1 k2 v2 k3 v3 : Int) (s1 s2 s3 : ByteArray) : NRow B (w.alloc (.cells #[.int .i64 k1, .int .i64 v1, .string s1, .int .i64 k2, .int .i64 v2, .string s2, .int .i64 k3, .int .i64 v3, .string s3] 120)) (.slice (some ⟨w.heap.size, 0, none⟩) 3 3) [⟨k1, v1, s1⟩, ⟨k2, v2, s2⟩, ⟨k3, v3, s3⟩] :=
 World.ownsRow_lit w #[.int .i64 k1, .int .i64 v1, .string s1, .int .i64 k2, .int .i64 v2, .string s2, .int .i64 k3, .int .i64 v3, .string s3] 3 hB (by decide) rfl
theorem okN.three {k1 v1 k2 v2 k3 v3 : Int} {s1 s2 s3 : ByteArray} (h1 : s1.size ≤ 100000) (h2 : s2.size ≤ 100000) (h3 : s3.size ≤ 100000) : okN [⟨k1, v1, s1⟩, ⟨k2, v2, s2⟩, ⟨k3, v3, s3⟩] 3 :=
 (okN.one h1).app ((okN.one h2).app (okN.one h3))
theorem scope_set {g : Nat} {a : Option Addr} {len cap q : Nat} {S : Nat → Prop} {w0 w2 : World} {G : Gn} {K : Nat} {v : Value} {ss : List ByteArray} {nm : ByteArray} (h : GS g a len cap q S w0 G K) (hb : Below w0.heap.size w0 w2) (ho : w2.ownsRow w0.heap.size 9 1 v (ss ++ [nm]).length ((ss ++ [nm]).map Value.string)) (hs : ∀ x ∈ ss, x.size ≤ 100000) (hn : nm.size ≤ 100000) (hl : ss.length + 1 ≤ K) : GS g a len cap q S (w2.setCell ⟨q, 2, none⟩ v) { G with vs := v, ss := ss ++ [nm] } K := by
 have h2 := h.below hb
 refine h2.set (h2.box.set2 _ _) (h2.ok.setS (fun W hW => own_strs (own_tcs ho hW h.lo.s)) (fun x hx => ?_) (by simpa using hl))
 rcases List.mem_append.1 hx with hx | hx
 ·exact hs x hx
 ·simp only [List.mem_singleton] at hx
  subst hx
  exact hn
theorem lock_set {g : Nat} {a : Option Addr} {len cap q : Nat} {S : Nat → Prop} {w0 w2 : World} {G : Gn} {K : Nat} {v : Value} {ss : List ByteArray} {nm : ByteArray} (h : GS g a len cap q S w0 G K) (hb : Below w0.heap.size w0 w2) (ho : w2.ownsRow w0.heap.size 9 1 v (ss ++ [nm]).length ((ss ++ [nm]).map Value.string)) (hs : ∀ x ∈ ss, x.size ≤ 100000) (hn : nm.size ≤ 100000) (hl : ss.length + 1 ≤ K) : GS g a len cap q S (w2.setCell ⟨q, 3, none⟩ v) { G with vl := v, ls := ss ++ [nm] } K := by
 have h2 := h.below hb
 refine h2.set (h2.box.set3 _ _) (h2.ok.setL (fun W hW => own_strs (own_tcs ho hW h.lo.s)) (fun x hx => ?_) (by simpa using hl))
 rcases List.mem_append.1 hx with hx | hx
 ·exact hs x hx
 ·simp only [List.mem_singleton] at hx
  subst hx
  exact hn
end
section
open Go.RowKit
theorem loop_any (g:Nat) (a:Option Addr) (len cap q d:Nat) (hl:len<=1048576) (hd:d<=3) (hX:StC g a len cap q d) (z:Int) (hz:z=((d+1:Nat):Int)) (S:Nat->Prop) (G:Gn) (K:Nat) (w:World) (h:GS g a len cap q S w G K) (hK:K+dpt (d+1)<=50000) :
  Calls Tryz.prog 73 #[.pointer (some ⟨g,0,none⟩),.pointer (some ⟨q,0,none⟩),.int .i64 z] w fun e w'=>∃v,e = .returned v/\StP g a len cap q S K (dpt (d+1)) 1 w v w':=by
 have hdb:=dpt_le (d:=d) (by omega)
 obtain ⟨D,hD⟩ : ∃D,D=dpt d:=⟨_,rfl⟩
 have hDD:dpt (d+1)=4*D+3:=by rw [hD];rfl
 rw [hDD] at hK ⊢
 have HX:=hide hX
 have HD:=hide hD
 have hz1:1<=z/\z<=4:=by omega
 have HZ:Hid (z-1=d):=by show _=_;omega
 rw [<-hD] at hdb
 clear hX hD hDD hz
 have HG:=hide h
 have hS0:S0 g g:=rfl
 have HS:Hid (∀W,Tcs S w W->Strs W G.vs G.ss):=h.ok.s
 have HSn:Hid (∀x∈G.ss,x.size<=100000):=h.ok.ns.2.1
 have HLn:Hid (∀x∈G.ls,x.size<=100000):=h.ok.ns.2.2
 have HSS:Hid (∀k,Sq g q k->S k):=h.sqs
 have hsl:=h.ok.sl
 have hll:=h.ok.ll
 have HL:Hid (Lo g a len S w.heap.size):=h.lo
 have HSq:Hid (S q):=h.sq
 clear h
 go_enter Tryz.func73,Tryz.ntmps73
 go_wp2_with fail
 refine (newName_any g a len cap q S G K w HG.out (by omega)).mono ?_
 rintro e w1 ⟨nm,rfl,hn1,hg1,ht1⟩
 have HNm:=hide hn1
 have HG1:=hide hg1
 have HT1:=hide ht1
 obtain ⟨va1,wa1,xa,xn,xc,wa2,ra1,ra2,oa,ba⟩:=sc_app w1 G.vs G.ss nm (hg1.ok.s w1 (Tcs.refl _ _)) (by omega) 73
 have hg3:=scope_set hg1 ba oa HSn.out hn1 (by omega)
 have ht3:Tcs (Sq g q) w (wa2.setCell ⟨q,2,none⟩ (.slice xa xn xc)):=(ht1.of_below ba).trans (set_sq wa2 (.slice xa xn xc))
 have c2:w1.cell? ⟨q,2,none⟩=some G.vs:=hg1.box.c2
 have c2a:(w1.alloc (.cells #[] 9)).cell? ⟨q,2,none⟩=some G.vs:=(hg1.alloc _).box.c2
 have ha2:=(hg1.below ba).box
 have d2:wa2.cell? ⟨q,2,none⟩=some G.vs:=ha2.c2
 have f2:wa2.frozen? ⟨q,2,none⟩=false:=ha2.fz 2
 obtain ⟨W3,hW3⟩ : ∃W3,W3=wa2.setCell ⟨q,2,none⟩ (.slice xa xn xc):=⟨_,rfl⟩
 have HW3:=hide hW3
 rw [<-hW3] at hg3 ht3
 have Hra1:=hide ra1
 have Hra2:=hide ra2
 have HG3:=hide hg3
 have HT3:=hide ht3
 clear hn1 hg1 ht1 oa hg3 ha2 ra1 ra2 ba ht3 hW3
 generalize hgv:G.vs=gvs at c2 c2a d2 Hra1
 have HGv:=hide hgv
 clear hgv
 go_upto_region 4 with (at_builtin;first
  | refine wpList_appG rfl (.tmp 19) (.tmp 23) _ rfl _ _ _ _ rfl rfl Hra1.out ?_
  | refine wpList_appG rfl (.tmp 24) (.tmp 26) _ rfl _ _ _ _ rfl rfl Hra2.out ?_)
 rw [<-HW3.out]
 clear c2 c2a d2 f2 HW3 Hra1 Hra2
 obtain ⟨vb1,wb1,ya,yn,yc,wb2,rb1,rb2,ob,bb⟩:=sc_app W3 G.vl G.ls nm (HG3.out.ok.l _ (Tcs.refl _ _)) (by omega) 73
 have hg5:=lock_set HG3.out bb ob HLn.out HNm.out (by omega)
 have ht5:Tcs (Sq g q) w (wb2.setCell ⟨q,3,none⟩ (.slice ya yn yc)):=(HT3.out.of_below bb).trans (set_sq wb2 (.slice ya yn yc))
 have d3:W3.cell? ⟨q,3,none⟩=some G.vl:=HG3.out.box.c3
 have d3a:(W3.alloc (.cells #[] 9)).cell? ⟨q,3,none⟩=some G.vl:=(HG3.out.alloc _).box.c3
 have hb2:=(HG3.out.below bb).box
 have e3:wb2.cell? ⟨q,3,none⟩=some G.vl:=hb2.c3
 have k3:wb2.frozen? ⟨q,3,none⟩=false:=hb2.fz 3
 obtain ⟨W5,hW5⟩ : ∃W5,W5=wb2.setCell ⟨q,3,none⟩ (.slice ya yn yc):=⟨_,rfl⟩
 have HW5:=hide hW5
 rw [<-hW5] at hg5 ht5
 obtain ⟨G5,hG5⟩ : ∃G5:Gn,G5 = {G with m:=G.m+1,vs:=(.slice xa xn xc),ss:=G.ss++[nm],vl:=(.slice ya yn yc),ls:=G.ls++[nm]}:=⟨_,rfl⟩
 have HG5:Hid (GS g a len cap q S W5 G5 (K+1)):=by rw [hG5];exact hg5
 have HT5:=hide ht5
 have Hrb1:=hide rb1
 have Hrb2:=hide rb2
 clear rb1 rb2 ob bb hg5 ht5 hb2 hW5 hG5
 generalize G.vl=gvl at d3 d3a e3 Hrb1
 go_upto_region 5 with (at_builtin;first
  | refine wpList_appG rfl (.tmp 31) (.tmp 35) _ rfl _ _ _ _ rfl rfl Hrb1.out ?_
  | refine wpList_appG rfl (.tmp 36) (.tmp 38) _ rfl _ _ _ _ rfl rfl Hrb2.out ?_)
 rw [<-HW5.out]
 clear d3 d3a e3 k3 HW5 Hrb1 Hrb2
 obtain ⟨W6,hW6⟩ : ∃W6,W6=W5.alloc (.cells #[.int .i64 2,.int .i64 0,.string nm] 120):=⟨_,rfl⟩
 have HW6:=hide hW6
 have HG6:Hid (GS g a len cap q S W6 G5 (K+1)):=by rw [hW6];exact HG5.out.alloc _
 have HT6:Hid (Tcs (Sq g q) w W6):=by rw [hW6];exact HT5.out.alloc _
 obtain ⟨P,hP⟩ : ∃P,P=W5.heap.size:=⟨_,rfl⟩
 have HP:=hide hP
 have hPw:w.heap.size<=P:=by rw [hP];exact HT5.out.size
 have HPc:Hid (∀W,Tcs (Sq g q) W6 W->W.cell? ⟨P,0,none⟩=some (.int .i64 2)/\W.cell? ⟨P,1,none⟩=some (.int .i64 0)/\W.cell? ⟨P,2,none⟩=some (.string nm)):=fun W hW=>by
  have hlt:P<W6.heap.size:=by rw [hW6,hP];simp
  have e : ∀o,W.cell? ⟨P,o,none⟩=W6.cell? ⟨P,o,none⟩:=fun o=>World.cell?_of_block (a:=⟨P,o,none⟩) (hW.block P hlt (fun s=>by have:=HG.out.lo.s P (HSS.out P s);omega))
  rw [e,e,e,hW6,hP]
  exact ⟨by simp,by simp,by simp⟩
 clear hW6 hP
 go_upto_region 6 with fail
 rw [<-HW6.out,<-HP.out]
 clear HW6 HP
 go_wp2_with fail
 refine (below_any g a len cap (S0 g) _ _ hl hS0 HG6.out.cur (by omega)).mono ?_
 rintro e w7 ⟨x,rfl,hx,hd7⟩
 have HG7:Hid (GS g a len cap q S w7 G5 (K+1)):=HG6.out.dr hd7
 have HT7:Hid (Tcs (Sq g q) w w7):=HT6.out.trans (hd7.tcs.mono s0q)
 have HT67:Hid (Tcs (Sq g q) W6 w7):=hd7.tcs.mono s0q
 obtain ⟨n,hnn⟩ : ∃n,n=(1+x).toNat:=⟨_,rfl⟩
 have hn3:n<=3/\1<=n:=by omega
 have HNx:Hid (1+x=(n:Int)):=by show _=_;omega
 obtain ⟨nD,hnD⟩ : ∃nD,nD=n*dpt d:=⟨_,rfl⟩
 have HnD:=hide hnD
 have hnDb:nD<=3*D:=by rw [hnD,<-HD.out];exact Nat.mul_le_mul_right _ hn3.1
 clear hd7 hnn hnD
 go_wp2_with fail
 refine (block_any g a len cap q d (by omega) HX.out n (by omega) _ _ HNx.out HZ.out S G5 (K+1) w7 HG7.out (by rw [<-HnD.out];omega)).mono ?_
 rintro e w8 ⟨vb,rfl,Rb,G8,hr8,hl8,hg8,ht8⟩
 rw [<-HnD.out] at hr8 hg8
 obtain ⟨ba,bn,bc,rfl⟩ : ∃ba bn bc,vb = .slice ba bn bc:=by obtain ⟨x,y,e⟩:=hr8.shape;exact ⟨x,_,y,e⟩
 obtain ⟨p0,p1,p2⟩:=HPc.out w8 (HT67.out.trans ht8)
 have h8s:w7.heap.size<=w8.heap.size:=ht8.size
 have h7s:w.heap.size<=w7.heap.size:=HT7.out.size
 have hPl:P<w8.heap.size:=World.block_lt_of_cell? _ _ p0
 have hlit:=sr_lit (w:=w8.alloc (.cells #[.int .i64 2,.int .i64 0,.string nm,.int .i64 1,.int .i64 1,.string ⟨#[]⟩,.int .i64 7,.int .i64 4,.string ⟨#[]⟩] 120)) (B:=w8.heap.size) (kd:=2) (th:=0) (el:=0) (nm:=nm) (vf:=.slice none 0 0) (f:=[]) (by simp) (nrow_st (nrow_lit3 w8 w8.heap.size (Nat.le_refl _) 2 0 1 1 7 4 nm ⟨#[]⟩ ⟨#[]⟩) (Nat.le_refl _)) (fun W _=>nodes_none W) ((okN.three HNm.out (by decide) (by decide)).e3 (by omega)) (okN.nil.more (Nat.zero_le _)) HNm.out
 have hr8':=(hr8.below ((Below.refl w8.heap.size w8).alloc (Nat.le_refl _) (.cells #[.int .i64 2,.int .i64 0,.string nm,.int .i64 1,.int .i64 1,.string ⟨#[]⟩,.int .i64 7,.int .i64 4,.string ⟨#[]⟩] 120))).below ((Below.refl _ _).alloc (Nat.le_refl _) (.cells #[.int .i64 2,.string nm,.slice (some ⟨w8.heap.size,0,none⟩) 3 3,.slice none 0 0,.int .i64 0,.int .i64 0] 94))
 have hg8':=(hg8.alloc (.cells #[.int .i64 2,.int .i64 0,.string nm,.int .i64 1,.int .i64 1,.string ⟨#[]⟩,.int .i64 7,.int .i64 4,.string ⟨#[]⟩] 120)).alloc (.cells #[.int .i64 2,.string nm,.slice (some ⟨w8.heap.size,0,none⟩) 3 3,.slice none 0 0,.int .i64 0,.int .i64 0] 94)
 have ht8':=(((HT7.out.trans ht8).alloc (.cells #[.int .i64 2,.int .i64 0,.string nm,.int .i64 1,.int .i64 1,.string ⟨#[]⟩,.int .i64 7,.int .i64 4,.string ⟨#[]⟩] 120)).alloc (.cells #[.int .i64 2,.string nm,.slice (some ⟨w8.heap.size,0,none⟩) 3 3,.slice none 0 0,.int .i64 0,.int .i64 0] 94))
 obtain ⟨v11,w11,r11,h11,t11,f11⟩:=sr_app 84 hr8' hlit (by simp;omega) (by omega) (sr_behind hlit h8s (fun k hk=>(hr8.rng k hk).2))
 obtain ⟨ca,cn,cc,rfl⟩ : ∃ca cn cc,v11 = .slice ca cn cc:=by obtain ⟨x,y,e⟩:=h11.shape;exact ⟨x,_,y,e⟩
 simp only [World.size_alloc] at r11
 have Hr11:=hide r11
 have H11:=hide h11
 have HG11:=hide (hg8'.app HG7.out.lo HSq.out (fun k hk=>(hr8.rng k hk).1) t11 f11 (fun k hk=>(h11.rng k hk).2))
 have HT11:Hid (Tcs (Sq g q) w w11):=ht8'.next t11 (fun k hk=>.inr (Nat.le_trans h7s (hr8.rng k hk).1))
 have HP11:Hid (Tcs (Sq g q) W6 w11):=(((HT67.out.trans ht8).alloc _).alloc _).next t11 (fun k hk=>.inr (Nat.le_trans HT67.out.size (hr8.rng k hk).1))
 have h711:w7.heap.size<=w11.heap.size:=by have:=t11.size;simp at this;omega
 clear hr8 hl8 hg8 ht8 hlit hr8' hg8' ht8' r11 h11 t11 f11
 go_upto_region 8 with (at_builtin;refine wpList_appG rfl _ _ _ rfl _ _ _ _ rfl rfl Hr11.out ?_)
 clear p0 p1 p2 Hr11 hPl
 go_wp2_with fail
 refine (below_any g a len cap (S0 g) _ _ hl hS0 HG11.out.cur (by omega)).mono ?_
 rintro e w12 ⟨y,rfl,hy,hd12⟩
 have hg12:=HG11.out.dr hd12
 have HT12:Hid (Tcs (Sq g q) w w12):=HT11.out.trans (hd12.tcs.mono s0q)
 have HP12:Hid (Tcs (Sq g q) W6 w12):=HP11.out.trans (hd12.tcs.mono s0q)
 have H1112:Hid (Tcs (Sq g q) w11 w12):=hd12.tcs.mono s0q
 obtain ⟨W14,hW14⟩ : ∃W14,W14=(w12.alloc (.cells #[.int .i64 1,.int .i64 y,.string ⟨#[]⟩] 120)).alloc (.cells #[.int .i64 1,.string nm,.slice (some ⟨w12.heap.size,0,none⟩) 1 1,.slice none 0 0,.int .i64 0,.int .i64 0] 94):=⟨_,rfl⟩
 have HW14:=hide hW14
 obtain ⟨O,hO⟩ : ∃O,O=w12.heap.size+1:=⟨_,rfl⟩
 have HO:=hide hO
 have hso:=sr_lit (w:=w12.alloc (.cells #[.int .i64 1,.int .i64 y,.string ⟨#[]⟩] 120)) (B:=w12.heap.size) (kd:=1) (th:=0) (el:=0) (nm:=nm) (vf:=.slice none 0 0) (f:=[]) (by simp) (nrow_st (nrow_lit w12 w12.heap.size (Nat.le_refl _) 1 y ⟨#[]⟩) (Nat.le_refl _)) (fun W _=>nodes_none W) ((okN.one (by decide)).e3 (by omega)) (okN.nil.more (Nat.zero_le _)) HNm.out
 have hg14:=GS.add (v:=.slice (some ⟨w12.heap.size+1,0,none⟩) 1 1) hg12 ((hg12.alloc (.cells #[.int .i64 1,.int .i64 y,.string ⟨#[]⟩] 120)).alloc (.cells #[.int .i64 1,.string nm,.slice (some ⟨w12.heap.size,0,none⟩) 1 1,.slice none 0 0,.int .i64 0,.int .i64 0] 94)) (((Tcs.refl _ _).alloc _).alloc _) (fun k hk=>by simp [Value.ownBlock] at hk;subst hk;simp)
 simp only [World.size_alloc] at hso
 rw [<-hW14] at hg14
 rw [<-hW14,<-hO] at hso
 rw [<-hO] at hg14
 have HSo:=hide hso
 have HG14:=hide hg14
 have HL12:Hid (Lo g a len (Sv S (.slice ca cn cc)) w12.heap.size):=hg12.lo
 have HT14:Hid (Tcs (Sq g q) w W14):=by rw [hW14];exact (HT12.out.alloc _).alloc _
 have HP14:Hid (Tcs (Sq g q) W6 W14):=by rw [hW14];exact (HP12.out.alloc _).alloc _
 have H1114:Hid (Tcs (Sq g q) w11 W14):=by rw [hW14];exact (H1112.out.alloc _).alloc _
 have h12s:w.heap.size<=w12.heap.size:=HT12.out.size
 have h1214:w12.heap.size<=W14.heap.size:=by rw [hW14];simp;omega
 have h1112:w11.heap.size<=w12.heap.size:=H1112.out.size
 clear hd12 hg12 hso hg14 hW14 hO
 go_upto_region 9 with fail
 rw [<-HW14.out,<-HO.out]
 clear HW14 HO
 obtain ⟨p0,p1,p2⟩:=HPc.out W14 HP14.out
 have hPl:P<W14.heap.size:=World.block_lt_of_cell? _ _ p0
 have hlit:=sr_lit (w:=W14.alloc (.cells #[.int .i64 2,.int .i64 0,.string nm,.int .i64 1,.int .i64 0,.string ⟨#[]⟩,.int .i64 7,.int .i64 9,.string ⟨#[]⟩] 120)) (B:=W14.heap.size) (kd:=5) (th:=cn) (el:=0) (nm:=⟨#[]⟩) (vf:=.slice none 0 0) (f:=[]) (by simp) (nrow_st (nrow_lit3 W14 W14.heap.size (Nat.le_refl _) 2 0 1 0 7 9 nm ⟨#[]⟩ ⟨#[]⟩) (Nat.le_refl _)) (fun W _=>nodes_none W) ((okN.three HNm.out (by decide) (by decide)).e3 (by omega)) (okN.nil.more (Nat.zero_le _)) (by decide)
 have hr14:=(HSo.out.below ((Below.refl W14.heap.size W14).alloc (Nat.le_refl _) (.cells #[.int .i64 2,.int .i64 0,.string nm,.int .i64 1,.int .i64 0,.string ⟨#[]⟩,.int .i64 7,.int .i64 9,.string ⟨#[]⟩] 120))).below ((Below.refl _ _).alloc (Nat.le_refl _) (.cells #[.int .i64 5,.string ⟨#[]⟩,.slice (some ⟨W14.heap.size,0,none⟩) 3 3,.slice none 0 0,.int .i64 cn,.int .i64 0] 94))
 have hg16:=(HG14.out.alloc (.cells #[.int .i64 2,.int .i64 0,.string nm,.int .i64 1,.int .i64 0,.string ⟨#[]⟩,.int .i64 7,.int .i64 9,.string ⟨#[]⟩] 120)).alloc (.cells #[.int .i64 5,.string ⟨#[]⟩,.slice (some ⟨W14.heap.size,0,none⟩) 3 3,.slice none 0 0,.int .i64 cn,.int .i64 0] 94)
 obtain ⟨v17,w17,r17,h17,t17,f17⟩:=sr_app 84 hr14 hlit (by simp;omega) (by omega) (sr_behind hlit h1214 (fun k hk=>(HSo.out.rng k hk).2))
 obtain ⟨da,dn,dc,rfl⟩ : ∃da dn dc,v17 = .slice da dn dc:=by obtain ⟨x,y,e⟩:=h17.shape;exact ⟨x,_,y,e⟩
 simp only [World.size_alloc] at r17
 have Hr17:=hide r17
 have H17:=hide h17
 have HG17:=hide (hg16.app HL12.out (.inl HSq.out) (fun k hk=>(HSo.out.rng k hk).1) t17 f17 (fun k hk=>(h17.rng k hk).2))
 have HT17:Hid (Tcs (Sq g q) w w17):=((HT14.out.alloc _).alloc _).next t17 (fun k hk=>.inr (Nat.le_trans h12s (HSo.out.rng k hk).1))
 have H1117:Hid (Tcs (Sq g q) w11 w17):=((H1114.out.alloc _).alloc _).next t17 (fun k hk=>.inr (Nat.le_trans h1112 (HSo.out.rng k hk).1))
 clear hlit hr14 hg16 r17 h17 t17 f17
 go_upto_region 10 with (at_builtin;refine wpList_appG rfl _ _ _ rfl _ _ _ _ rfl rfl Hr17.out ?_)
 clear p0 p1 p2 Hr17 hPl
 have hst:Strs w17 gvs G.ss:=by have:=HS.out w17 (HT17.out.mono HSS.out);rwa [HGv.out] at this
 obtain ⟨vc1,wc1,za,zn,zc,wc2,rc1,rc2,oc,bc⟩:=sc_app w17 gvs G.ss nm hst (by omega) 73
 have hg19:=scope_set HG17.out bc oc HSn.out HNm.out (by omega)
 have hx2:=(HG17.out.below bc).box
 have d2:wc2.cell? ⟨q,2,none⟩=some G8.vs:=hx2.c2
 have f2:wc2.frozen? ⟨q,2,none⟩=false:=hx2.fz 2
 obtain ⟨W19,hW19⟩ : ∃W19,W19=wc2.setCell ⟨q,2,none⟩ (.slice za zn zc):=⟨_,rfl⟩
 have HW19:=hide hW19
 have ht19:Tcs (Sq g q) w17 W19:=by rw [hW19];exact bc.tcs.trans (set_sq wc2 _)
 rw [<-hW19] at hg19
 have h1119:Tcs (Sq g q) w11 W19:=H1117.out.trans ht19
 have hS7 : ∀k,Sq g q k->k<w7.heap.size:=fun k hk=>HG7.out.lo.s k (HSS.out k hk)
 have hr19:SR w.heap.size W19 (.slice da dn dc) _ (1+1):=(H17.out.tcs ht19 (fun k hk=>Nat.lt_of_lt_of_le (hS7 k hk) (by omega))).low h12s
 have hb19:=H11.out.tcs h1119 hS7
 obtain ⟨v20,w20,r20,h20,t20,f20⟩:=sr_app 84 hr19 hb19 (Nat.le_trans HT17.out.size ht19.size) (by omega) (sr_before H11.out (h1119.mono hS7) h7s (fun k hk=>Nat.le_trans h1112 (H17.out.rng k hk).1))
 have Hr20:=hide r20
 have HF:Hid (StP g a len cap q S K (4*D+3) 1 w v20 w20):=by
  refine ⟨_,_,h20.more (by omega),by simp,GS.more ((hg19.sub (S':=Sv S (.slice da dn dc)) (fun k hk=>hk.imp .inl id) (.inl HL.out.sg) (.inl HSq.out)).app HL.out HSq.out (fun k hk=>(hr19.rng k hk).1) t20 f20 (fun k hk=>(h20.rng k hk).2)) (by omega),?_⟩
  exact (HT17.out.trans ht19).next t20 (fun k hk=>.inr (hr19.rng k hk).1)
 have Hrc1:=hide rc1
 have Hrc2:=hide rc2
 clear rc1 rc2 oc bc hg19 hx2 hW19 ht19 h1119 hS7 hr19 hb19 r20 h20 t20 f20 hst
 generalize G8.vs=g8v at d2
 go_upto_region 11 with (at_builtin;first
  | refine wpList_appG rfl (.tmp 79) (.tmp 80) _ rfl _ _ _ _ rfl rfl Hrc1.out ?_
  | refine wpList_appG rfl (.tmp 81) (.tmp 83) _ rfl _ _ _ _ rfl rfl Hrc2.out ?_)
 rw [<-HW19.out]
 clear d2 f2 HW19 Hrc1 Hrc2
 go_wp2_with (at_builtin;refine wpList_appG rfl _ _ _ rfl _ _ _ _ rfl rfl Hr20.out ?_)
 go_ret
 exact ⟨_,rfl,HF.out⟩
end
section
open Go.RowKit
theorem StP.from {g : Nat} {a : Option Addr} {len cap q : Nat} {S : Nat → Prop} {K L m : Nat} {w w1 w' : World} {v : Value} (h : StP g a len cap q S K L m w1 v w') (ht : Tcs (Sq g q) w w1) : StP g a len cap q S K L m w v w' := by
 obtain ⟨R, G', h1, h2, h3, h4⟩ := h
 exact ⟨R, G', h1.low ht.size, h2, h3, ht.trans h4⟩
theorem GS.k0 {g : Nat} {a : Option Addr} {len cap q : Nat} {S : Nat → Prop} {w : World} {G : Gn} {K : Nat} (h : GS g a len cap q S w G K) : ∀ k, Sq g q k → k < w.heap.size := fun k hk => h.lo.s k (h.sqs k hk)
theorem GS.cs {g : Nat} {a : Option Addr} {len cap q : Nat} {S : Nat → Prop} {w : World} {G : Gn} {K : Nat} (h : GS g a len cap q S w G K) : ∃ a c, G.vc = .slice a G.cs.length c := by
 obtain ⟨a, c, e, -⟩ := h.ok.c w (Tcs.refl _ _)
 exact ⟨a, c, e⟩
set_option maxRecDepth 100000 in
set_option maxHeartbeats 16000000 in
theorem stmt_step (g : Nat) (a : Option Addr) (len cap q : Nat) (hl : len ≤ 1048576) (d : Nat) (hd : d ≤ 4) (hX : ∀ d', d = d' + 1 → StC g a len cap q d') : StC g a len cap q d := by
 intro z S G K w hz h hK
 have hdb := dpt_le hd
 obtain ⟨L, hL⟩ : ∃ L, L = dpt d := ⟨_, rfl⟩
 have HLd : Hid (L = dpt d) := hL
 have HX : Hid (∀ d', d = d' + 1 → StC g a len cap q d') := hX
 rw [← hL] at hdb hK ⊢
 have HG : Hid (GS g a len cap q S w G K) := h
 have HZ : Hid (z = d) := hz
 have hzb : 0 ≤ z ∧ z ≤ 4 := by omega
 have hS0 : S0 g g := rfl
 clear hX hL h hz
 go_enter Tryz.func55, Tryz.ntmps55
 go_wp2_with fail
 refine (below_any g a len cap (S0 g) _ _ hl hS0 HG.out.cur (by omega)).mono ?_
 rintro e w1 ⟨k, rfl, hk, hd1⟩
 have HG1 : Hid (GS g a len cap q S w1 G K) := HG.out.dr hd1
 have HT1 : Hid (Tcs (Sq g q) w w1) := hd1.tcs.mono s0q
 have hs1 : w.heap.size ≤ w1.heap.size := hd1.tcs.size
 have x0 := HG1.out.box.c0
 have x1 := HG1.out.box.c1
 have x2 := HG1.out.box.c2
 have x3 := HG1.out.box.c3
 have x4 := HG1.out.box.c4
 clear hd1
 have hk14 : (k = 0 ∨ k = 1) ∨ (k = 2 ∨ k = 3) ∨ (k = 4 ∨ k = 5) ∨ (k = 6 ∨ k = 7) ∨ k = 8 ∨ k = 9 ∨ k = 10 ∨ (k = 11 ∨ k = 12) ∨ k = 13 := by omega
 rcases hk14 with hk14 | hk14 | hk14 | hk14 | rfl | rfl | rfl | hk14 | rfl
 ·rcases hk14 with rfl | rfl
  all_goals (
   go_wp2_with fail
   refine (whole_any g a len cap (S0 g) G K w1 hl HG1.out.lo0 HG1.out.cur HG1.out.ok0 (by omega)).mono ?_
   rintro e w2 ⟨u2, e2, rfl, hr2, hn2, hd2⟩
   obtain ⟨a2, c2, rfl, -⟩ := own_shape hr2
   have HG2 : Hid (GS g a len cap q S w2 G K) := HG1.out.dr hd2
   have HT2 : Hid (Tcs (Sq g q) w w2) := HT1.out.trans (hd2.tcs.mono s0q)
   have HN2 : Hid (∀ W, Tcs (fun k => k < w.heap.size) w2 W → Nodes W (.slice a2 e2.length c2) e2) := nrow_st hr2 HT1.out.size
   have HO2 : Hid (okN e2 3000) := hn2.e3 (by omega)
   generalize e2.length = l2 at HN2 ⊢
   clear hr2 hn2 hd2 x0 x1 x2 x3 x4
   go_wp2_with fail
   refine (newName_any g a len cap q S G K w2 HG2.out (by omega)).mono ?_
   rintro e w3 ⟨nm, rfl, hn3, hg3, ht3⟩
   have HNm : Hid (nm.size ≤ 100000) := hn3
   have hsl : G.ss.length ≤ K := HG.out.ok.sl
   obtain ⟨va1, wa1, xa, xn, xc, wa2, ra1, ra2, oa, ba⟩ := sc_app w3 G.vs G.ss nm (hg3.ok.s w3 (Tcs.refl _ _)) (by omega) 73
   have hg5 := scope_set hg3 ba oa HG.out.ok.ns.2.1 hn3 (by omega)
   have c2' : w3.cell? ⟨q, 2, none⟩ = some G.vs := hg3.box.c2
   have c2a : (w3.alloc (.cells #[] 9)).cell? ⟨q, 2, none⟩ = some G.vs := (hg3.alloc _).box.c2
   have ha2 := (hg3.below ba).box
   have d2 : wa2.cell? ⟨q, 2, none⟩ = some G.vs := ha2.c2
   have f2 : wa2.frozen? ⟨q, 2, none⟩ = false := ha2.fz 2
   obtain ⟨W5, hW5⟩ : ∃ W5, W5 = wa2.setCell ⟨q, 2, none⟩ (.slice xa xn xc) := ⟨_, rfl⟩
   have HW5 : Hid (W5 = wa2.setCell ⟨q, 2, none⟩ (.slice xa xn xc)) := hW5
   have ht25 : Tcs (Sq g q) w2 W5 := by rw [hW5]; exact (ht3.of_below ba).trans (set_sq wa2 (.slice xa xn xc))
   rw [← hW5] at hg5
   have HF : Hid (StP g a len cap q S K L 1 w (.slice (some ⟨W5.heap.size, 0, none⟩) 1 1) (W5.alloc (.cells #[.int .i64 1, .string nm, .slice a2 l2 c2, .slice none 0 0, .int .i64 0, .int .i64 0] 94))) := one_fin (L := L) 1 0 0 nm (hg5.more (by omega)) (HT2.out.trans ht25) (fun W hW => HN2.out W ((ht25.mono HG.out.k0).trans hW)) (fun W _ => nodes_none W) HO2.out (okN.nil.more (Nat.zero_le _)) HNm.out (by omega)
   have Hra1 : Hid _ := ra1
   have Hra2 : Hid _ := ra2
   clear hn3 hg3 ht3 oa hg5 ha2 ra1 ra2 ba ht25 hW5
   generalize G.vs = gvs at c2' c2a d2 Hra1
   go_upto_region 8 with (at_builtin; first
    | refine wpList_appG rfl (.tmp 32) (.tmp 36) _ rfl _ _ _ _ rfl rfl Hra1.out ?_
    | refine wpList_appG rfl (.tmp 37) (.tmp 39) _ rfl _ _ _ _ rfl rfl Hra2.out ?_)
   rw [← HW5.out]
   clear c2' c2a d2 f2 HW5 Hra1 Hra2
   go_wp2_with fail
   go_ret
   exact ⟨_, rfl, HF.out⟩)
 ·rcases hk14 with rfl | rfl
  all_goals (
   go_wp2_with fail
   refine (set_any g a len cap q hl S G K L (by omega) w1 HG1.out (by omega)).mono ?_
   rintro e w2 ⟨v, rfl, hst⟩
   have HF : Hid (StP g a len cap q S K L 1 w v w2) := hst.from HT1.out
   clear hst
   go_wp2_with fail
   go_ret
   exact ⟨_, rfl, HF.out⟩)
 ·rcases hk14 with rfl | rfl
  all_goals (
   go_wp2_with fail
   refine (expr_any g a len cap (S0 g) hl 2 (by omega) 2 G K w1 rfl HG1.out.lo0 HG1.out.cur HG1.out.ok0 (by omega)).mono ?_
   rintro e w2 ⟨u2, e2, rfl, hr2, hn2, hd2⟩
   have HG2 : Hid (GS g a len cap q S w2 G K) := HG1.out.dr hd2
   have HT2 : Hid (Tcs (Sq g q) w w2) := HT1.out.trans (hd2.tcs.mono s0q)
   have hx57 : xpt 2 = 57 := rfl
   have HN2 : Hid (Nodes w2 u2 e2) := NRow.nodes hr2
   have HO2 : Hid (okN e2 57) := hn2
   have hl2 : e2.length ≤ 57 := hn2.1
   clear hr2 hn2 hd2 x0 x1 x2 x3 x4 hx57
   go_wp2_with fail
   refine (join_any e2 _ _ _ _ u2 _ _ (HN2.out.below ((Below.refl _ _).alloc (Nat.le_refl _) _)) (nrow_lit w2 0 (Nat.zero_le _) _ _ _).nodes (by simp; omega)).mono ?_
   rintro e w3 ⟨u3, rfl, hr3, hb3⟩
   have hb3' := ((Below.refl w2.heap.size w2).alloc (Nat.le_refl _) (.cells #[.int .i64 1, .int .i64 7, .string ⟨#[]⟩] 120)).trans (hb3.mono (by simp))
   obtain ⟨a3, n3, c3', rfl⟩ : ∃ x y z, u3 = .slice x y z := by obtain ⟨x, y, e, -⟩ := own_shape hr3; exact ⟨x, _, y, e⟩
   have HG3 : Hid (GS g a len cap q S w3 G K) := HG2.out.below hb3'
   have HT3 : Hid (Tcs (Sq g q) w w3) := HT2.out.of_below hb3'
   have HE3 : Hid (∀ W, Tcs (fun k => k < w.heap.size) w3 W → Nodes W (.slice a3 n3 c3') (e2 ++ [⟨1, 7, ⟨#[]⟩⟩] ++ [⟨7, 13, ⟨#[]⟩⟩])) := nrow_st hr3 (Nat.le_trans HT2.out.size (by simp))
   have x0 := HG3.out.box.c0
   have x1 := HG3.out.box.c1
   have x2 := HG3.out.box.c2
   have x3 := HG3.out.box.c3
   have x4 := HG3.out.box.c4
   clear hr3 hb3 hb3' HN2
   go_wp2_with fail
   refine (whole_any g a len cap (S0 g) G K w3 hl HG3.out.lo0 HG3.out.cur HG3.out.ok0 (by omega)).mono ?_
   rintro e w5 ⟨u5, e5, rfl, hr5, hn5, hd5⟩
   obtain ⟨a5, c5, rfl, -⟩ := own_shape hr5
   have HF : Hid (StP g a len cap q S K L 1 w (.slice (some ⟨w5.heap.size, 0, none⟩) 1 1) (w5.alloc (.cells #[.int .i64 3, .string ⟨#[97]⟩, .slice a3 n3 c3', .slice a5 e5.length c5, .int .i64 0, .int .i64 0] 94))) := one_fin (L := L) 3 0 0 ⟨#[97]⟩ ((HG3.out.dr hd5).more (Nat.le_add_right _ _)) (HT3.out.trans (hd5.tcs.mono s0q)) (fun W hW => HE3.out W (((hd5.tcs.mono s0q).mono HG.out.k0).trans hW)) (nrow_st hr5 HT3.out.size) (okN.more ((HO2.out.app (okN.one (by decide))).app (okN.one (by decide))) (by omega)) (hn5.e3 (by omega)) (by decide) (by omega)
   clear hr5 hn5 hd5 x0 x1 x2 x3 x4
   generalize e5.length = l5 at HF ⊢
   go_wp2_with fail
   go_ret
   exact ⟨_, rfl, HF.out⟩)
 ·rcases hk14 with rfl | rfl
  all_goals (
   go_wp2_with fail
   refine (whole_any g a len cap (S0 g) G K w1 hl HG1.out.lo0 HG1.out.cur HG1.out.ok0 (by omega)).mono ?_
   rintro e w5 ⟨u5, e5, rfl, hr5, hn5, hd5⟩
   obtain ⟨a5, c5, rfl, -⟩ := own_shape hr5
   have HF : Hid (StP g a len cap q S K L 1 w (.slice (some ⟨w5.heap.size, 0, none⟩) 1 1) (w5.alloc (.cells #[.int .i64 7, .string ⟨#[]⟩, .slice a5 e5.length c5, .slice none 0 0, .int .i64 0, .int .i64 0] 94))) := one_fin (L := L) 7 0 0 ⟨#[]⟩ ((HG1.out.dr hd5).more (Nat.le_add_right _ _)) (HT1.out.trans (hd5.tcs.mono s0q)) (nrow_st hr5 HT1.out.size) (fun W _ => nodes_none W) (hn5.e3 (by omega)) (okN.nil.more (Nat.zero_le _)) (by decide) (by omega)
   clear hr5 hn5 hd5 x0 x1 x2 x3 x4
   generalize e5.length = l5 at HF ⊢
   go_wp2_with fail
   go_ret
   exact ⟨_, rfl, HF.out⟩)
 ·go_wp2_with fail
  refine (once_any g a len cap (S0 g) _ _ hl hS0 HG1.out.cur (by omega)).mono ?_
  rintro e w2 ⟨b2, rfl, hd2⟩
  have HG2 : Hid (GS g a len cap q S w2 G K) := HG1.out.dr hd2
  have HT2 : Hid (Tcs (Sq g q) w w2) := HT1.out.trans (hd2.tcs.mono s0q)
  clear hd2 x0 x1 x2 x3 x4 HG1 HT1 hs1
  generalize w2 = w1 at *
  have HG1 : Hid (GS g a len cap q S w1 G K) := HG2.out
  have HT1 : Hid (Tcs (Sq g q) w w1) := HT2.out
  clear HG2 HT2
  have x0 := HG1.out.box.c0
  have x1 := HG1.out.box.c1
  have x2 := HG1.out.box.c2
  have x3 := HG1.out.box.c3
  have x4 := HG1.out.box.c4
  cases b2
  ·go_wp2_with fail
   refine (leaf_any g a len cap (S0 g) G K w1 hl HG1.out.lo0 HG1.out.cur HG1.out.ok0 (by omega)).mono ?_
   rintro e w5 ⟨u5, e5, rfl, hr5, hn5, hd5⟩
   obtain ⟨a5, c5, rfl, -⟩ := own_shape hr5
   have HF : Hid (StP g a len cap q S K L 1 w (.slice (some ⟨w5.heap.size, 0, none⟩) 1 1) (w5.alloc (.cells #[.int .i64 7, .string ⟨#[]⟩, .slice a5 e5.length c5, .slice none 0 0, .int .i64 0, .int .i64 0] 94))) := one_fin (L := L) 7 0 0 ⟨#[]⟩ ((HG1.out.dr hd5).more (Nat.le_add_right _ _)) (HT1.out.trans (hd5.tcs.mono s0q)) (nrow_st hr5 HT1.out.size) (fun W _ => nodes_none W) (hn5.e3 (by omega)) (okN.nil.more (Nat.zero_le _)) (by decide) (by omega)
   clear hr5 hn5 hd5 x0 x1 x2 x3 x4
   generalize e5.length = l5 at HF ⊢
   go_wp2_with fail
   go_ret
   exact ⟨_, rfl, HF.out⟩
  ·go_wp2_with fail
   refine (whole_any g a len cap (S0 g) G K w1 hl HG1.out.lo0 HG1.out.cur HG1.out.ok0 (by omega)).mono ?_
   rintro e w5 ⟨u5, e5, rfl, hr5, hn5, hd5⟩
   obtain ⟨a5, c5, rfl, -⟩ := own_shape hr5
   have HF : Hid (StP g a len cap q S K L 1 w (.slice (some ⟨w5.heap.size, 0, none⟩) 1 1) (w5.alloc (.cells #[.int .i64 6, .string ⟨#[]⟩, .slice a5 e5.length c5, .slice none 0 0, .int .i64 0, .int .i64 0] 94))) := one_fin (L := L) 6 0 0 ⟨#[]⟩ ((HG1.out.dr hd5).more (Nat.le_add_right _ _)) (HT1.out.trans (hd5.tcs.mono s0q)) (nrow_st hr5 HT1.out.size) (fun W _ => nodes_none W) (hn5.e3 (by omega)) (okN.nil.more (Nat.zero_le _)) (by decide) (by omega)
   clear hr5 hn5 hd5 x0 x1 x2 x3 x4
   generalize e5.length = l5 at HF ⊢
   go_wp2_with fail
   go_ret
   exact ⟨_, rfl, HF.out⟩
 ·obtain ⟨ac, cc, hvc⟩ := HG1.out.cs
  by_cases hcs : 0 < G.cs.length
  ·have hc10 : G.cs.length ≤ 10 := HG1.out.ok.c4
   have hpc : G.ps.length = G.cs.length := HG1.out.ok.cp
   obtain ⟨cl, hcl⟩ : ∃ cl, cl = G.cs.length := ⟨_, rfl⟩
   have hcl1 : 0 < cl ∧ cl ≤ 10 := by omega
   have hcl2 : (0 : Int) < (cl : Int) := by omega
   rw [hvc, ← hcl] at x0
   have HVC : Hid (G.vc = .slice ac cl cc) := by rw [hcl]; exact hvc
   have HCL : Hid (cl = G.cs.length ∧ cl = G.ps.length) := ⟨hcl, by omega⟩
   clear hvc hpc hcs hc10 hcl
   go_wp2_with fail
   refine (below_any g a len cap (S0 g) _ _ hl hS0 HG1.out.cur (by omega)).mono ?_
   rintro e w2 ⟨fz, rfl, hf, hd2⟩
   obtain ⟨f, rfl⟩ : ∃ f : Nat, fz = f := ⟨fz.toNat, by omega⟩
   have hfc : f < G.cs.length := by have := HCL.out.1; omega
   have hfp : f < G.ps.length := by have := HCL.out.2; omega
   have HG2 : Hid (GS g a len cap q S w2 G K) := HG1.out.dr hd2
   have HT2 : Hid (Tcs (Sq g q) w w2) := HT1.out.trans (hd2.tcs.mono s0q)
   obtain ⟨pf, hpf⟩ : ∃ pf : Int, pf = G.ps[f] := ⟨_, rfl⟩
   obtain ⟨nm, hnm⟩ : ∃ nm : ByteArray, nm = G.cs[f] := ⟨_, rfl⟩
   have hpfb : 0 ≤ pf ∧ pf ≤ 6 := by rw [hpf]; exact HG2.out.ok.pb _ (List.getElem_mem hfp)
   have HNm : Hid (nm.size ≤ 100000) := by rw [hnm]; exact HG2.out.ok.ns.1 _ (List.getElem_mem hfc)
   obtain ⟨pb, pcap, hvp, -⟩ := ints_at (HG2.out.ok.p w2 (Tcs.refl _ _)) f hfp
   obtain ⟨cb, off, ccap, hvc2, -⟩ := strs_at (HG2.out.ok.c w2 (Tcs.refl _ _)) f hfc
   have HVP : Hid (G.vp = .slice (some ⟨pb, 0, none⟩) cl pcap) := by rw [HCL.out.2]; exact hvp
   have HVC2 : Hid (G.vc = .slice (some ⟨cb, off, none⟩) cl ccap) := by rw [HCL.out.1]; exact hvc2
   have HPC : Hid (∀ W, Tcs S w2 W → W.cell? ⟨pb, f, none⟩ = some (.int .i64 pf) ∧ W.cell? ⟨cb, off + f, none⟩ = some (.string nm)) := fun W hW => by
    obtain ⟨pb', pc', q1, q2⟩ := ints_at (HG2.out.ok.p W hW) f hfp
    obtain ⟨cb', off', cc', q3, q4⟩ := strs_at (HG2.out.ok.c W hW) f hfc
    rw [hvp] at q1
    rw [hvc2] at q3
    simp only [Value.slice.injEq, Option.some.injEq, Addr.mk.injEq] at q1 q3
    obtain ⟨⟨rfl, -, -⟩, -, rfl⟩ := q1
    obtain ⟨⟨rfl, rfl, -⟩, -, rfl⟩ := q3
    rw [hpf, hnm]
    exact ⟨q2, q4⟩
   have HE1 : Hid (∀ W, Lo g a len (S0 g) W.heap.size → Cur g a len cap W → GnOk (S0 g) W G K → Calls Tryz.prog 56 #[.pointer (some ⟨g, 0, none⟩), .agg #[.slice (some ⟨cb, off, none⟩) cl ccap, .slice (some ⟨pb, 0, none⟩) cl pcap, G.vs, G.vl, .int .i64 G.m], .int .i64 1] W fun e w' => ∃ u ns, e = .returned u ∧ NRow W.heap.size w' u ns ∧ okN ns 9 ∧ Dr g a len cap (S0 g) W w') := fun W h1 h2 h3 => by
    have := expr_any g a len cap (S0 g) hl 1 (by omega) 1 G K W rfl h1 h2 h3 (by omega)
    rw [HVP.out, HVC2.out] at this
    exact this
   have hff : (f : Int) < (cl : Int) := by omega
   have HBx : Hid (∀ W, GB q W G → W.cell? ⟨q, 0, none⟩ = some (.slice (some ⟨cb, off, none⟩) cl ccap) ∧ W.cell? ⟨q, 1, none⟩ = some (.slice (some ⟨pb, 0, none⟩) cl pcap) ∧ W.cell? ⟨q, 2, none⟩ = some G.vs ∧ W.cell? ⟨q, 3, none⟩ = some G.vl ∧ W.cell? ⟨q, 4, none⟩ = some (.int .i64 G.m)) := fun W hB => by
    have h0 := hB.c0
    have h1 := hB.c1
    rw [HVC2.out] at h0
    rw [HVP.out] at h1
    exact ⟨h0, h1, hB.c2, hB.c3, hB.c4⟩
   have hs2 : w.heap.size ≤ w2.heap.size := HT2.out.size
   have HS2 : Hid (∀ k, S k → k < w2.heap.size) := HG2.out.lo.s
   have HL2 : Hid (Lo g a len S w2.heap.size) := HG2.out.lo
   have HG3 : Hid (GS g a len cap q (Sv S (.slice (some ⟨w2.heap.size, 0, none⟩) 0 0)) (w2.alloc (.cells #[] 120)) G K) := HG2.out.add (HG2.out.alloc _) ((Tcs.refl _ _).alloc _) (fun k hk => by simp [Value.ownBlock] at hk; subst hk; simp)
   clear hd2 hpf hnm hvp hvc2 x0 x1 x2 x3 x4 hfc hfp
   go_wp2_with fail
   go_loopw [12, 13, 14] (fun ov i ar wr => ∃ j : Nat, (j : Int) ≤ pf ∧ i = .int .i64 j ∧ ∃ ns : List Nd, NRow w2.heap.size wr ov ns ∧ okN ns (j * 9) ∧ GS g a len cap q (Sv S ov) wr G K ∧ Tcs (S0 g) w2 wr) (fun _ i _ _ => pf.toNat - (RowKit.intOf i).toNat)
   case atStart => exact ⟨0, by omega, rfl, [], nrow_nil w2 w2.heap.size (Nat.le_refl _), by rw [Nat.zero_mul]; exact okN.nil, HG3.out, (Tcs.refl _ _).alloc _⟩
   case round =>
    obtain ⟨j, hj, rfl, ns, hr, hn, hgr, htr⟩ := hrel
    have HR : Hid (NRow w2.heap.size wr u12 ns) := hr
    have HN : Hid (okN ns (j * 9)) := hn
    have HGr : Hid (GS g a len cap q (Sv S u12) wr G K) := hgr
    have HTr : Hid (Tcs (S0 g) w2 wr) := htr
    obtain ⟨x0, x1, x2, x3, x4⟩ := HBx.out wr hgr.box
    obtain ⟨y0, y1⟩ := HPC.out wr (htr.mono HG2.out.s0)
    have hnl : ns.length ≤ 54 := Nat.le_trans hn.1 (by omega)
    have hsr : w2.heap.size ≤ wr.heap.size := htr.size
    clear hr hn hgr htr
    by_cases hlt : (j : Int) < pf
    ·go_wp2_with fail
     refine (HE1.out wr HGr.out.lo0 HGr.out.cur HGr.out.ok0).mono ?_
     rintro e w4 ⟨u4, e4, rfl, hr4, hn4, hd4⟩
     have hR4 := own_tcs HR.out hd4.tcs (fun k hk => HS2.out k (HG2.out.s0 k hk))
     have hl4 : e4.length ≤ 9 := hn4.1
     obtain ⟨v5, w5, r5, r5b, r5c, r5d⟩ := run_appN (w := w4) w2.heap.size 91 _ ns hR4 u4 e4 (NRow.nodes hr4) (by omega) (Nat.le_trans hsr hd4.tcs.size)
     have ht5 : Tcs (fun k => u12.ownBlock = some k) w4 w5 := Tcs.of_grown r5c (fun k hk => hk)
     have HR5 : Hid (NRow w2.heap.size w5 v5 (ns ++ e4) ∧ okN (ns ++ e4) (j * 9 + 9) ∧ GS g a len cap q (Sv S v5) w5 G K ∧ Tcs (S0 g) w2 w5) := ⟨r5b, HN.out.app hn4, (HGr.out.dr hd4).app HL2.out HG2.out.sq (fun k hk => (World.ownsRow.lt HR.out k hk).1) ht5 r5d (fun k hk => (World.ownsRow.lt r5b k hk).2), (HTr.out.trans hd4.tcs).next ht5 (fun k hk => .inr (World.ownsRow.lt HR.out k hk).1)⟩
     have Hr5 : Hid _ := r5
     clear hr4 hn4 hd4 hR4 r5 r5b r5c r5d x0 x1 x2 x3 x4 y0 y1 ht5
     go_wp2_with (at_builtin; refine wpList_appG rfl _ _ _ rfl _ _ _ _ rfl rfl Hr5.out ?_)
     go_roundw
     case rel => exact ⟨j + 1, by omega, by go_num, ns ++ e4, HR5.out.1, by rw [Nat.succ_mul]; exact HR5.out.2.1, HR5.out.2.2.1, HR5.out.2.2.2⟩
     case measure => simp [RowKit.intOf]; omega
    ·have hj6 : j ≤ 6 := by omega
     go_upto_region 33 with fail
     go_region_law
      (refine step_appN rfl (.tmp 137) (.tmp 153) rfl w2.heap.size _ ns rfl (NRow.below HR.out (((Below.refl _ _).drew).alloc (Nat.le_refl _) _)) _ _ rfl (nrow_lit wr.drew 0 (Nat.zero_le _) _ _ _).nodes (by simp; omega) (by simp; omega) ?_
       intro u6 w6 h6 g6 f6
       obtain ⟨a6, n6, c6, rfl⟩ : ∃ x y z, u6 = .slice x y z := by obtain ⟨x, y, e, -⟩ := own_shape h6; exact ⟨x, _, y, e⟩
       have ht6 : Tcs (fun k => u12.ownBlock = some k) (wr.drew.alloc (.cells #[.int .i64 4, .int .i64 pf, .string nm] 120)) w6 := Tcs.of_grown g6 (fun k hk => hk)
       have hgb : Below wr.heap.size wr (wr.drew.alloc (.cells #[.int .i64 4, .int .i64 pf, .string nm] 120)) := ((Below.refl _ _).drew).alloc (Nat.le_refl _) _
       have hg6 : GS g a len cap q (Sv S (.slice a6 n6 c6)) w6 G K := (HGr.out.below hgb).app HL2.out HG2.out.sq (fun k hk => (World.ownsRow.lt HR.out k hk).1) ht6 f6 (fun k hk => (World.ownsRow.lt h6 k hk).2)
       have htw6 : Tcs (Sq g q) w w6 := (HT2.out.trans ((HTr.out.of_below hgb).next ht6 (fun k hk => .inr (World.ownsRow.lt HR.out k hk).1) |>.mono s0q))
       have HF : Hid (StP g a len cap q S K L 1 w (.slice (some ⟨w6.heap.size, 0, none⟩) 1 1) (w6.alloc (.cells #[.int .i64 8, .string ⟨#[]⟩, .slice a6 n6 c6, .slice none 0 0, .int .i64 0, .int .i64 0] 94))) := one_fin (L := L) 8 0 0 ⟨#[]⟩ ((hg6.drop HL2.out.sg HG2.out.sq).more (Nat.le_add_right _ _)) htw6 (nrow_st h6 hs2) (fun W _ => nodes_none W) (okN.more (HN.out.app (okN.one HNm.out)) (by omega)) (okN.nil.more (Nat.zero_le _)) (by decide) (by omega)
       clear h6 g6 f6 ht6 hgb hg6 htw6)
     all_goals (
      go_wp2_with fail
      go_ret
      exact ⟨_, rfl, HF.out⟩)
  ·obtain ⟨cl, hcl⟩ : ∃ cl, cl = G.cs.length := ⟨_, rfl⟩
   have hcl0 : (cl : Int) ≤ 0 := by omega
   rw [hvc, ← hcl] at x0
   have HVC : Hid (G.vc = .slice ac cl cc) := by rw [hcl]; exact hvc
   have HLf : Hid (∀ W, Lo g a len (S0 g) W.heap.size → Cur g a len cap W → GnOk (S0 g) W G K → Calls Tryz.prog 58 #[.pointer (some ⟨g, 0, none⟩), .agg #[.slice ac cl cc, G.vp, G.vs, G.vl, .int .i64 G.m]] W fun e w' => ∃ u ns, e = .returned u ∧ NRow W.heap.size w' u ns ∧ okN ns 1 ∧ Dr g a len cap (S0 g) W w') := fun W h1 h2 h3 => by
    have := leaf_any g a len cap (S0 g) G K W hl h1 h2 h3 (by omega)
    rw [HVC.out] at this
    exact this
   clear hvc hcs hcl
   go_wp2_with fail
   refine (HLf.out w1 HG1.out.lo0 HG1.out.cur HG1.out.ok0).mono ?_
   rintro e w5 ⟨u5, e5, rfl, hr5, hn5, hd5⟩
   obtain ⟨a5, c5, rfl, -⟩ := own_shape hr5
   have HF : Hid (StP g a len cap q S K L 1 w (.slice (some ⟨w5.heap.size, 0, none⟩) 1 1) (w5.alloc (.cells #[.int .i64 7, .string ⟨#[]⟩, .slice a5 e5.length c5, .slice none 0 0, .int .i64 0, .int .i64 0] 94))) := one_fin (L := L) 7 0 0 ⟨#[]⟩ ((HG1.out.dr hd5).more (Nat.le_add_right _ _)) (HT1.out.trans (hd5.tcs.mono s0q)) (nrow_st hr5 HT1.out.size) (fun W _ => nodes_none W) (hn5.e3 (by omega)) (okN.nil.more (Nat.zero_le _)) (by decide) (by omega)
   clear hr5 hn5 hd5 x0 x1 x2 x3 x4
   generalize e5.length = l5 at HF ⊢
   go_wp2_with fail
   go_ret
   exact ⟨_, rfl, HF.out⟩
 ·by_cases hz0 : z = 0
  ·subst hz0
   go_wp2_with fail
   refine (leaf_any g a len cap (S0 g) G K w1 hl HG1.out.lo0 HG1.out.cur HG1.out.ok0 (by omega)).mono ?_
   rintro e w5 ⟨u5, e5, rfl, hr5, hn5, hd5⟩
   obtain ⟨a5, c5, rfl, -⟩ := own_shape hr5
   have HF : Hid (StP g a len cap q S K L 1 w (.slice (some ⟨w5.heap.size, 0, none⟩) 1 1) (w5.alloc (.cells #[.int .i64 7, .string ⟨#[]⟩, .slice a5 e5.length c5, .slice none 0 0, .int .i64 0, .int .i64 0] 94))) := one_fin (L := L) 7 0 0 ⟨#[]⟩ ((HG1.out.dr hd5).more (Nat.le_add_right _ _)) (HT1.out.trans (hd5.tcs.mono s0q)) (nrow_st hr5 HT1.out.size) (fun W _ => nodes_none W) (hn5.e3 (by omega)) (okN.nil.more (Nat.zero_le _)) (by decide) (by omega)
   clear hr5 hn5 hd5 x0 x1 x2 x3 x4
   generalize e5.length = l5 at HF ⊢
   go_wp2_with fail
   go_ret
   exact ⟨_, rfl, HF.out⟩
  ·have hz1 : 0 < z := by omega
   obtain ⟨d', hd'⟩ : ∃ d', d = d' + 1 := ⟨d - 1, by have := HZ.out; omega⟩
   have HLp : Hid (∀ W, Tcs (Sq g q) w W → GS g a len cap q S W G K → Calls Tryz.prog 73 #[.pointer (some ⟨g, 0, none⟩), .pointer (some ⟨q, 0, none⟩), .int .i64 z] W fun e w' => ∃ v, e = .returned v ∧ StP g a len cap q S K L 1 W v w') := fun W _ hW => by
    have hk' : K + dpt (d' + 1) ≤ 50000 := by rw [← hd', ← HLd.out]; exact hK
    have := loop_any g a len cap q d' hl (by omega) (HX.out d' hd') z (by rw [← hd']; exact HZ.out) S G K W hW hk'
    rw [← hd', ← HLd.out] at this
    exact this
   clear hd' x0 x1 x2 x3 x4
   go_wp2_with fail
   refine (HLp.out w1 HT1.out HG1.out).mono ?_
   rintro e w2 ⟨v, rfl, hst⟩
   have HF : Hid (StP g a len cap q S K L 1 w v w2) := hst.from HT1.out
   clear hst
   go_wp2_with fail
   go_ret
   exact ⟨_, rfl, HF.out⟩
 ·by_cases hz0 : z = 0
  ·subst hz0
   rcases hk14 with rfl | rfl
   all_goals (
    go_wp2_with fail
    refine (leaf_any g a len cap (S0 g) G K w1 hl HG1.out.lo0 HG1.out.cur HG1.out.ok0 (by omega)).mono ?_
    rintro e w5 ⟨u5, e5, rfl, hr5, hn5, hd5⟩
    obtain ⟨a5, c5, rfl, -⟩ := own_shape hr5
    have HF : Hid (StP g a len cap q S K L 1 w (.slice (some ⟨w5.heap.size, 0, none⟩) 1 1) (w5.alloc (.cells #[.int .i64 7, .string ⟨#[]⟩, .slice a5 e5.length c5, .slice none 0 0, .int .i64 0, .int .i64 0] 94))) := one_fin (L := L) 7 0 0 ⟨#[]⟩ ((HG1.out.dr hd5).more (Nat.le_add_right _ _)) (HT1.out.trans (hd5.tcs.mono s0q)) (nrow_st hr5 HT1.out.size) (fun W _ => nodes_none W) (hn5.e3 (by omega)) (okN.nil.more (Nat.zero_le _)) (by decide) (by omega)
    clear hr5 hn5 hd5 x0 x1 x2 x3 x4
    generalize e5.length = l5 at HF ⊢
    go_wp2_with fail
    go_ret
    exact ⟨_, rfl, HF.out⟩)
  ·have hz1 : 0 < z := by omega
   obtain ⟨d', hd'⟩ : ∃ d', d = d' + 1 := ⟨d - 1, by have := HZ.out; omega⟩
   have HXd : Hid (StC g a len cap q d') := HX.out d' hd'
   obtain ⟨D, hD⟩ : ∃ D, D = dpt d' := ⟨_, rfl⟩
   have hLD : L = 4 * D + 3 := by rw [HLd.out, hd', hD]; rfl
   have HD : Hid (D = dpt d') := hD
   have HLD : Hid (L = 4 * D + 3) := hLD
   have hDL : 4 * D + 3 ≤ L ∧ L ≤ 4 * D + 3 := by omega
   have HZd : Hid (z - 1 = (d' : Int)) := by show _ = _; have := HZ.out; omega
   have hd3 : d' ≤ 3 := by omega
   clear hd' hD hLD
   rcases hk14 with rfl | rfl
   all_goals (
    go_wp2_with fail
    refine (whole_any g a len cap (S0 g) G K w1 hl HG1.out.lo0 HG1.out.cur HG1.out.ok0 (by omega)).mono ?_
    rintro e w2 ⟨u2, e2, rfl, hr2, hn2, hd2⟩
    obtain ⟨a2, n2, c2, rfl⟩ : ∃ x y z, u2 = .slice x y z := by obtain ⟨x, y, e, -⟩ := own_shape hr2; exact ⟨x, _, y, e⟩
    have HG2 : Hid (GS g a len cap q S w2 G K) := HG1.out.dr hd2
    have HT2 : Hid (Tcs (Sq g q) w w2) := HT1.out.trans (hd2.tcs.mono s0q)
    have HN2 : Hid (∀ W, Tcs (fun k => k < w.heap.size) w2 W → Nodes W (.slice a2 n2 c2) e2) := nrow_st hr2 HT1.out.size
    have HO2 : Hid (okN e2 3000) := hn2.e3 (by omega)
    clear hr2 hn2 hd2 x0 x1 x2 x3 x4
    go_wp2_with fail
    refine (below_any g a len cap (S0 g) _ _ hl hS0 HG2.out.cur (by omega)).mono ?_
    rintro e w3 ⟨x, rfl, hx, hd3'⟩
    have HG3 : Hid (GS g a len cap q S w3 G K) := HG2.out.dr hd3'
    have H23 : Hid (Tcs (Sq g q) w2 w3) := hd3'.tcs.mono s0q
    obtain ⟨n, hnn⟩ : ∃ n, n = x.toNat := ⟨_, rfl⟩
    have hn2' : n ≤ 2 := by omega
    have HNx : Hid (x = (n : Int)) := by show _ = _; omega
    obtain ⟨nD, hnD⟩ : ∃ nD, nD = n * dpt d' := ⟨_, rfl⟩
    have HnD : Hid (nD = n * dpt d') := hnD
    have hnDb : nD ≤ 2 * D := by rw [hnD, ← HD.out]; exact Nat.mul_le_mul_right _ hn2'
    clear hd3' hnn hnD
    go_wp2_with fail
    refine (block_any g a len cap q d' (by omega) HXd.out n (by omega) _ _ HNx.out HZd.out S G K w3 HG3.out (by rw [← HnD.out]; omega)).mono ?_
    rintro e w4 ⟨va, rfl, Ra, G4, hr4, -, hg4, ht4⟩
    rw [← HnD.out] at hr4 hg4
    obtain ⟨ba, bn, bc, rfl⟩ : ∃ x y z, va = .slice x y z := by obtain ⟨x, y, e⟩ := hr4.shape; exact ⟨x, _, y, e⟩
    have HR4 : Hid (SR w3.heap.size w4 (.slice ba bn bc) Ra nD) := hr4
    have HG4 : Hid (GS g a len cap q (Sv S (.slice ba bn bc)) w4 G4 (K + nD)) := hg4
    have H24 : Hid (Tcs (Sq g q) w2 w4) := H23.out.trans ht4
    clear hr4 hg4 ht4
    go_wp2_with fail
    refine (below_any g a len cap (S0 g) _ _ hl hS0 HG4.out.cur (by omega)).mono ?_
    rintro e w5 ⟨y, rfl, hy, hd5⟩
    have HG5 : Hid (GS g a len cap q (Sv S (.slice ba bn bc)) w5 G4 (K + nD)) := HG4.out.dr hd5
    have H45 : Hid (Tcs (Sq g q) w4 w5) := hd5.tcs.mono s0q
    clear hd5
    go_wp2_with fail
    refine (below_any g a len cap (S0 g) _ _ hl hS0 HG5.out.cur (by omega)).mono ?_
    rintro e w6 ⟨y2, rfl, hy2, hd6⟩
    have HG6 : Hid (GS g a len cap q (Sv S (.slice ba bn bc)) w6 G4 (K + nD)) := HG5.out.dr hd6
    have H46 : Hid (Tcs (Sq g q) w4 w6) := H45.out.trans (hd6.tcs.mono s0q)
    obtain ⟨m, hmm⟩ : ∃ m : Nat, m = (y * y2).toNat := ⟨_, rfl⟩
    have hyy : 0 ≤ y * y2 ∧ y * y2 ≤ 2 := by
     have : y2 = 0 ∨ y2 = 1 := by omega
     rcases this with rfl | rfl <;> omega
    have hm2 : m ≤ 2 := by omega
    have HMx : Hid (y * y2 = (m : Int)) := by show _ = _; omega
    obtain ⟨mD, hmD⟩ : ∃ mD, mD = m * dpt d' := ⟨_, rfl⟩
    have HmD : Hid (mD = m * dpt d') := hmD
    have hmDb : mD ≤ 2 * D := by rw [hmD, ← HD.out]; exact Nat.mul_le_mul_right _ hm2
    have hw64 : wrap64 (y * y2) = y * y2 := by unfold wrap64; omega
    have HW64 : Hid (IntKind.i64.wrap (y * y2) = y * y2) := by show _ = _; rw [IntKind.wrap_i64]; omega
    generalize hyz : y * y2 = yy at *
    clear hd6 hmm hmD
    go_wp2_with fail
    try simp only [hyz]
    refine (block_any g a len cap q d' (by omega) HXd.out m (by omega) _ _ HMx.out HZd.out (Sv S (.slice ba bn bc)) G4 (K + nD) w6 HG6.out (by rw [← HmD.out]; omega)).mono ?_
    rintro e w7 ⟨vb, rfl, Rb, G7, hr7, -, hg7, ht7⟩
    rw [← HmD.out] at hr7 hg7
    obtain ⟨da, dn, dc, rfl⟩ : ∃ x y z, vb = .slice x y z := by obtain ⟨x, y, e⟩ := hr7.shape; exact ⟨x, _, y, e⟩
    have h47 := H46.out.trans ht7
    have h27 := H24.out.trans h47
    have hT7 := HT2.out.trans h27
    have hs7 : w.heap.size ≤ w7.heap.size := hT7.size
    have hk3 : ∀ k, Sq g q k → k < w3.heap.size := HG3.out.k0
    have hra := HR4.out.tcs h47 hk3
    have hso := sr_lit (w := w7) (B := w.heap.size) (kd := 4) (th := bn) (el := dn) (nm := ⟨#[]⟩) (vf := .slice none 0 0) (f := []) hs7 (fun W hW => HN2.out W ((h27.mono HG.out.k0).trans hW)) (fun W _ => nodes_none W) HO2.out (okN.nil.more (Nat.zero_le _)) (by decide)
    obtain ⟨W8, hW8⟩ : ∃ W8, W8 = w7.alloc (.cells #[.int .i64 4, .string ⟨#[]⟩, .slice a2 n2 c2, .slice none 0 0, .int .i64 bn, .int .i64 dn] 94) := ⟨_, rfl⟩
    have hb8 : Below w7.heap.size w7 W8 := by rw [hW8]; exact (Below.refl _ _).alloc (Nat.le_refl _) _
    rw [← hW8] at hso
    have hown : ∀ k, (Value.slice (some ⟨w7.heap.size, 0, none⟩) 1 1).ownBlock = some k → w7.heap.size ≤ k := fun k hk => by simp [Value.ownBlock] at hk; omega
    have hwk3 : w.heap.size ≤ w3.heap.size := Nat.le_trans HT2.out.size H23.out.size
    have hwk6 : w.heap.size ≤ w6.heap.size := Nat.le_trans HT2.out.size (H24.out.trans H46.out).size
    obtain ⟨v9, w9, r9, h9, t9, f9⟩ := sr_app 84 hso (hra.below hb8) (Nat.le_trans hs7 hb8.size) (by omega) (sr_before hra hb8.tcs hwk3 hown)
    have h79 : Tcs (fun _ => False) w7 w9 := (hb8.tcs (S := fun _ => False)).next t9 (fun k hk => .inr (hown k hk))
    have hv9 : ∀ k, v9.ownBlock = some k → w7.heap.size ≤ k := fun k hk => by
     rcases f9 k hk with h | h
     ·exact hown k h
     ·have := hb8.size; omega
    obtain ⟨v10, w10, r10, h10, t10, f10⟩ := sr_app 84 h9 (hr7.tcs h79 (fun k hk => hk.elim)) (Nat.le_trans hs7 h79.size) (by omega) (sr_before hr7 (h79.mono fun k hk => hk.elim) hwk6 hv9)
    have hgS := hg7.sub (S' := S) (fun k hk => .inl (.inl hk)) HG.out.lo.sg HG.out.sq
    have hg8 := GS.add (v := .slice (some ⟨w7.heap.size, 0, none⟩) 1 1) hgS (hgS.below hb8) hb8.tcs (fun k hk => ⟨hown k hk, (hso.rng k hk).2⟩)
    have hg9 := hg8.app HG.out.lo HG.out.sq (fun k hk => (hso.rng k hk).1) t9 f9 (fun k hk => (h9.rng k hk).2)
    have hg10 := hg9.app HG.out.lo HG.out.sq (fun k hk => (h9.rng k hk).1) t10 f10 (fun k hk => (h10.rng k hk).2)
    have HF : Hid (StP g a len cap q S K L 1 w v10 w10) := ⟨_, G7, h10.more (by omega), by simp, hg10.more (by omega), (hT7.trans (h79.mono fun k hk => hk.elim)).next t10 (fun k hk => .inr (h9.rng k hk).1)⟩
    rw [hW8] at r9
    have Hr9 : Hid _ := r9
    have Hr10 : Hid _ := r10
    clear hr7 hg7 ht7 h47 h27 hT7 hs7 hk3 hra hso hb8 hown r9 h9 t9 f9 h79 hv9 r10 h10 t10 f10 hgS hg8 hg9 hg10 hW8
    go_wp2_with (at_builtin; first
     | refine wpList_appG rfl (.tmp 198) (.tmp 199) _ rfl _ _ _ _ rfl rfl Hr9.out ?_
     | refine wpList_appG rfl (.tmp 200) (.tmp 201) _ rfl _ _ _ _ rfl rfl Hr10.out ?_)
    go_ret
    exact ⟨_, rfl, HF.out⟩)
 ·go_wp2_with fail
  refine (leaf_any g a len cap (S0 g) G K w1 hl HG1.out.lo0 HG1.out.cur HG1.out.ok0 (by omega)).mono ?_
  rintro e w5 ⟨u5, e5, rfl, hr5, hn5, hd5⟩
  obtain ⟨a5, c5, rfl, -⟩ := own_shape hr5
  have HF : Hid (StP g a len cap q S K L 1 w (.slice (some ⟨w5.heap.size, 0, none⟩) 1 1) (w5.alloc (.cells #[.int .i64 7, .string ⟨#[]⟩, .slice a5 e5.length c5, .slice none 0 0, .int .i64 0, .int .i64 0] 94))) := one_fin (L := L) 7 0 0 ⟨#[]⟩ ((HG1.out.dr hd5).more (Nat.le_add_right _ _)) (HT1.out.trans (hd5.tcs.mono s0q)) (nrow_st hr5 HT1.out.size) (fun W _ => nodes_none W) (hn5.e3 (by omega)) (okN.nil.more (Nat.zero_le _)) (by decide) (by omega)
  clear hr5 hn5 hd5 x0 x1 x2 x3 x4
  generalize e5.length = l5 at HF ⊢
  go_wp2_with fail
  go_ret
  exact ⟨_, rfl, HF.out⟩
theorem stmt_any (g : Nat) (a : Option Addr) (len cap q : Nat) (hl : len ≤ 1048576) (d : Nat) : d ≤ 4 → StC g a len cap q d := by
 induction d with
 | zero => intro hd; exact stmt_step g a len cap q hl 0 hd (fun d' h => by omega)
 | succ d ih => intro hd; exact stmt_step g a len cap q hl (d + 1) hd (fun d' h => by
  have e : d' = d := by omega
  rw [e]
  exact ih (by omega))
end
section
open Go.RowKit
theorem stmts_of {W : World} {B : Nat} {v : Value} {R : List SV} (h0 : W.ownsRow B 94 6 v R.length (flatS R)) (hp : PtS R W) : Stmts W v (R.map (·.s)) := by
 rcases h0.2 with ⟨rfl, hz⟩ | ⟨g, cap, cur, rfl, h3, h4, h5⟩
 ·exact ⟨none, 0, by rw [List.length_map, hz], by rw [List.length_map, hz]; exact Nat.le_refl _, by omega, fun h => by rw [List.length_map] at h; omega⟩
 ·have hc : R.length ≤ cap ∧ cap ≤ 9223372036854775807 := by
   obtain ⟨q1, q2, -⟩ := h5
   unfold maxLen at q2
   exact ⟨q1, q2⟩
  refine ⟨some ⟨g, 0, none⟩, cap, by rw [List.length_map], by rw [List.length_map]; exact hc.1, hc.2, fun hp' => ⟨g, 0, rfl, fun j hj => ?_⟩⟩
  rw [List.length_map] at hj
  have key : ∀ i, i < 6 → W.cell? ⟨g, 0 + j * 6 + i, none⟩ = (cellsS R[j])[i]? := fun i hi => by
   have hl : (flatS R).length = R.length * 6 := flatS_len R
   rw [Nat.zero_add, World.ownsRow.cellAt h0 (j * 6 + i) (by omega), flatS_get R j i hj hi]
  have he := hp R[j] (List.getElem_mem hj)
  refine ⟨R[j].ve, R[j].vf, ?_, ?_, ?_⟩
  ·simp only [List.getElem_map]
   exact ⟨key 0 (by omega), key 1 (by omega), key 2 (by omega), key 3 (by omega), key 4 (by omega), key 5 (by omega)⟩
  ·simp only [List.getElem_map]; exact he.1
  ·simp only [List.getElem_map]; exact he.2
def gcl (g : Gl) : List Value := [.string g.name, .int .i64 g.size]
def gflat (gs : List Gl) : List Value := gs.flatMap gcl
theorem gflat_len (gs : List Gl) : (gflat gs).length = gs.length * 2 := by
 induction gs with
 | nil => rfl
 | cons a r ih =>
  have : (gflat (a :: r)).length = 2 + (gflat r).length := by simp [gflat, gcl]; omega
  rw [this, ih, List.length_cons]
  omega
theorem gflat_get : ∀ (gs : List Gl) (j i : Nat) (hj : j < gs.length), i < 2 → (gflat gs)[j * 2 + i]? = (gcl gs[j])[i]?
 | x :: l, 0, i, _, hi => by
  have : (gcl x).length = 2 := rfl
  show (gcl x ++ gflat l)[0 * 2 + i]? = _
  rw [List.getElem?_append_left (by omega)]
  simp
 | x :: l, j + 1, i, hj, hi => by
  have h7 : (gcl x).length = 2 := rfl
  show (gcl x ++ gflat l)[(j + 1) * 2 + i]? = _
  rw [List.getElem?_append_right (by omega)]
  have e : (j + 1) * 2 + i - (gcl x).length = j * 2 + i := by omega
  rw [e, gflat_get l j i (by simpa using hj) hi]
  simp
def GR (B : Nat) (w : World) (v : Value) (gs : List Gl) : Prop := w.ownsRow B 81 2 v gs.length (gflat gs)
theorem globs_of {B : Nat} {w : World} {v : Value} {gs : List Gl} (h : GR B w v gs) : Globs w v gs := by
 have h0 : w.ownsRow B 81 2 v gs.length (gflat gs) := h
 rcases h0.2 with ⟨rfl, hz⟩ | ⟨g, cap, cur, rfl, h3, h4, h5⟩
 ·exact ⟨none, 0, by rw [hz], by rw [hz]; exact Nat.le_refl _, by omega, fun h => by omega⟩
 ·have hc : gs.length ≤ cap ∧ cap ≤ 9223372036854775807 := by
   obtain ⟨q1, q2, -⟩ := h5
   unfold maxLen at q2
   exact ⟨q1, q2⟩
  refine ⟨some ⟨g, 0, none⟩, cap, rfl, hc.1, hc.2, fun hp' => ⟨g, 0, rfl, fun j hj => ?_⟩⟩
  have key : ∀ i, i < 2 → w.cell? ⟨g, 0 + j * 2 + i, none⟩ = (gcl gs[j])[i]? := fun i hi => by
   have hl : (gflat gs).length = gs.length * 2 := gflat_len gs
   rw [Nat.zero_add, World.ownsRow.cellAt h0 (j * 2 + i) (by omega), gflat_get gs j i hj hi]
  exact ⟨key 0 (by omega), key 1 (by omega)⟩
theorem info_glob : (Tryz.prog.info? 81).map (fun i => (i.zero, i.size, i.bytes)) = some (some (.agg #[.string ⟨#[]⟩, .int .i64 0]), 2, 24) := by kernel_rfl
end
section
open Go.RowKit
theorem SR.stmts {B:Nat} {w:World} {v:Value} {R:List SV} {L:Nat} (h:SR B w v R L) : ∀W,Tcs (fun k=>k<B) w W->Stmts W v (R.map (·.s)):=fun W hW=>
 stmts_of (own_tcs h.row.row hW (fun k hk=>hk)) (h.row.st W (hW.mono fun k hk=>.inl hk))
def RdS (W:World) (v:Value) (R:List SV):Prop:=(∃a c,v = .slice a R.length c/\R.length<=c/\c<=9223372036854775807/\(0<R.length->∃b off,a=some ⟨b,off,none⟩/\∀j u,(flatS R)[j]? = some u->W.cell? ⟨b,off+j,none⟩=some u))/\PtS R W
theorem RdS.stmts {W:World} {v:Value} {R:List SV} (h:RdS W v R):Stmts W v (R.map (·.s)):=by
 obtain ⟨⟨a,c,rfl,h1,h2,h3⟩,hp⟩:=h
 refine ⟨a,c,by rw [List.length_map],by rw [List.length_map];exact h1,h2,fun hp' => ?_⟩
 rw [List.length_map] at hp'
 obtain ⟨b,off,rfl,hc⟩:=h3 hp'
 refine ⟨b,off,rfl,fun j hj => ?_⟩
 rw [List.length_map] at hj
 have key : ∀i (hi:i<6),W.cell? ⟨b,off+j*6+i,none⟩=(cellsS R[j])[i]? := fun i hi=>by
  have e:=flatS_get R j i hj hi
  have hl:i<(cellsS R[j]).length:=hi
  rw [List.getElem?_eq_getElem hl] at e ⊢
  rw [Nat.add_assoc]
  exact hc _ _ e
 have he:=hp R[j] (List.getElem_mem hj)
 refine ⟨R[j].ve,R[j].vf,?_,?_,?_⟩
 ·simp only [List.getElem_map]
  exact ⟨key 0 (by omega),key 1 (by omega),key 2 (by omega),key 3 (by omega),key 4 (by omega),key 5 (by omega)⟩
 ·simp only [List.getElem_map];exact he.1
 ·simp only [List.getElem_map];exact he.2
theorem rd_of {W:World} {B:Nat} {v:Value} {R:List SV} (h0:W.ownsRow B 94 6 v R.length (flatS R)) (hp:PtS R W):RdS W v R:=by
 refine ⟨?_,hp⟩
 have hh:=h0
 rcases h0.2 with ⟨rfl,hz⟩ | ⟨g,cap,cur,rfl,h3,h4,h5⟩
 ·exact ⟨none,0,by rw [hz],by omega,by omega,fun h=>by omega⟩
 ·obtain ⟨q1,q2,-⟩:=h5
  unfold maxLen at q2
  refine ⟨_,cap,rfl,q1,q2,fun _=>⟨g,0,rfl,fun j u hu => ?_⟩⟩
  have:=World.ownsRow.cells hh (g:=g) rfl j u hu
  rwa [addrO] at this
theorem SR.rd {B:Nat} {w:World} {v:Value} {R:List SV} {L:Nat} (h:SR B w v R L) : ∀W,Tcs (fun k=>k<B) w W->RdS W v R:=fun W hW=>
 rd_of (own_tcs h.row.row hW (fun k hk=>hk)) (h.row.st W (hW.mono fun k hk=>.inl hk))
theorem RdS.one {W:World} {v:Value} {R:List SV} (h:RdS W v R):v.oneCell'=true:=by
 obtain ⟨⟨a,c,rfl,-⟩,-⟩:=h
 rfl
def PtF (Q:List FV) (W:World):Prop:=∀x∈Q,Strs W x.vp x.f.params/\RdS W x.vb x.R/\x.R.map (·.s)=x.f.body
structure okFn (f:Fu):Prop where
 nm:f.name.size<=100000
 pl:f.params.length<=20
 pn : ∀p∈f.params,p.size<=100000
 bl:1<=f.body.length
 bu:f.body.length<=10000
 st : ∀s∈f.body,okN s.e 3000/\okN s.f 3000/\s.name.size<=100000
theorem okS.body {R:List SV} (h:okS R) : ∀s∈R.map (·.s),okN s.e 3000/\okN s.f 3000/\s.name.size<=100000:=fun s hs=>by
 obtain ⟨x,hx,rfl⟩:=List.mem_map.1 hs
 exact h x hx
structure FR (S:Nat->Prop) (B:Nat) (w:World) (v:Value) (Q:List FV):Prop where
 row:DRow 86 3 S B w v Q.length (flatF Q) (PtF Q)
 ok : ∀x∈Q,okFn x.f
theorem FR.tcs {S:Nat->Prop} {B:Nat} {w w':World} {v:Value} {Q:List FV} (h:FR S B w v Q) (ht:Tcs S w w') (hS : ∀k,S k->k<B):FR S B w' v Q:=⟨h.row.tcs ht hS,h.ok⟩
theorem FR.below {S:Nat->Prop} {B:Nat} {w w':World} {v:Value} {Q:List FV} (h:FR S B w v Q) (hb:Below w.heap.size w w'):FR S B w' v Q:=⟨h.row.below hb,h.ok⟩
theorem FR.low {S:Nat->Prop} {B B':Nat} {w:World} {v:Value} {Q:List FV} (h:FR S B w v Q) (hb:B'<=B):FR S B' w v Q:=⟨h.row.low hb,h.ok⟩
theorem FR.less {S S':Nat->Prop} {B:Nat} {w:World} {v:Value} {Q:List FV} (h:FR S B w v Q) (hs : ∀k,S' k->S k):FR S' B w v Q:=⟨h.row.less hs,h.ok⟩
theorem FR.rng {S:Nat->Prop} {B:Nat} {w:World} {v:Value} {Q:List FV} (h:FR S B w v Q) : ∀k,v.ownBlock=some k->B<=k/\k<w.heap.size:=fun k hk=>World.ownsRow.lt h.row.row k hk
theorem FR.shape {S:Nat->Prop} {B:Nat} {w:World} {v:Value} {Q:List FV} (h:FR S B w v Q) : ∃a c,v = .slice a Q.length c:=by
 obtain ⟨a,c,e,-⟩:=own_shape h.row.row
 exact ⟨a,c,e⟩
theorem fr_none {S:Nat->Prop} {B:Nat} {w:World}:FR S B w (.slice none 0 0) []:=⟨DRow.nil (fun W x hx=>by cases hx),fun x hx=>by cases hx⟩
theorem funcs_of {W:World} {B:Nat} {v:Value} {Q:List FV} (h0:W.ownsRow B 86 3 v Q.length (flatF Q)) (hp:PtF Q W):Funcs W v (Q.map (fun q:FV=>q.f)):=by
 rcases h0.2 with ⟨rfl,hz⟩ | ⟨g,cap,cur,rfl,h3,h4,h5⟩
 ·exact ⟨none,0,by rw [List.length_map,hz],by rw [List.length_map,hz];exact Nat.le_refl _,by omega,fun h=>by rw [List.length_map] at h;omega⟩
 ·have hc:Q.length<=cap/\cap<=9223372036854775807:=by
   obtain ⟨q1,q2,-⟩:=h5
   unfold maxLen at q2
   exact ⟨q1,q2⟩
  refine ⟨some ⟨g,0,none⟩,cap,by rw [List.length_map],by rw [List.length_map];exact hc.1,hc.2,fun hp'=>⟨g,0,rfl,fun j hj => ?_⟩⟩
  rw [List.length_map] at hj
  have key : ∀i,i<3->W.cell? ⟨g,0+j*3+i,none⟩=(cellsF Q[j])[i]? := fun i hi=>by
   have hl:(flatF Q).length=Q.length*3:=flatF_len Q
   rw [Nat.zero_add,World.ownsRow.cellAt h0 (j*3+i) (by omega),flatF_get Q j i hj hi]
  obtain ⟨e1,e2,e3⟩:=hp Q[j] (List.getElem_mem hj)
  have e2:=e2.stmts
  rw [e3] at e2
  refine ⟨Q[j].vp,Q[j].vb,?_,?_,?_⟩
  ·simp only [List.getElem_map]
   exact ⟨key 0 (by omega),key 1 (by omega),key 2 (by omega)⟩
  ·simp only [List.getElem_map];exact e1
  ·simp only [List.getElem_map];exact e2
theorem FR.funcs {S:Nat->Prop} {B:Nat} {w:World} {v:Value} {Q:List FV} (h:FR S B w v Q) (hS : ∀k,S k->k<B) : ∀W,Tcs S w W->Funcs W v (Q.map (fun q:FV=>q.f)):=fun W hW=>
 funcs_of (own_tcs h.row.row hW hS) (h.row.st W (hW.mono fun k hk=>.inl hk))
theorem fr_app {S:Nat->Prop} {w:World} {B m c:Nat} {v:Value} {Q Q2:List FV} (ty:TypeId) (h:FR S B w v Q) (a:Option Addr) (hm2:m=Q2.length) (hn:a=none->m=0) (hc : ∀ad,a=some ad->∀j u,(flatF Q2)[j]? = some u->w.cell? (ad.add j)=some u) (h1 : ∀x∈Q2,x.vp.oneCell'=true/\x.vb.oneCell'=true) (ho : ∀x∈Q2,okFn x.f)
  (hP2 : ∀W,Tcs (fun k=>S k∨v.ownBlock=some k) w W->PtF Q2 W) (hm:Q.length+Q2.length<=100000) (hB:B<=w.heap.size) :
  ∃v' w',(Builtin.append_ #[42,42] ty #[v,.slice a m c]).run Tryz.prog w = .ok v' w'/\FR S B w' v' (Q++Q2)/\Tcs (fun k=>v.ownBlock=some k) w w'/\∀k,v'.ownBlock=some k->v.ownBlock=some k∨w.heap.size<=k:=by
 subst hm2
 obtain ⟨i0,hi,hz0,hz1,hz2⟩:=info_parts info_func
 obtain ⟨v',w',r1,r2,r3,r4⟩:=drow_app (Pg:=Tryz.prog) (w:=w) (T:=86) (t:=42) (c:=c) (P2:=PtF Q2) ty Tryz.underlying42 hi hz0 hz1 hz2 rfl (by decide) h.row a hn (flatF_len Q2) hc (fun u hu=>by
  simp only [flatF,List.mem_flatMap] at hu
  obtain ⟨x,hx,hu⟩:=hu
  obtain ⟨g1,g2⟩:=h1 x hx
  simp only [cellsF,List.mem_cons,List.not_mem_nil,or_false] at hu
  rcases hu with rfl | rfl | rfl
  ·rfl
  ·exact g1
  ·exact g2) hP2 (by omega) (by decide) hB
 refine ⟨v',w',r1,⟨⟨by rw [l_a,flatF_append];exact r2.row,fun W hW x hx => ?_⟩,fun x hx => ?_⟩,r3,r4⟩
 ·rcases List.mem_append.1 hx with hx | hx
  ·exact (r2.st W hW).1 x hx
  ·exact (r2.st W hW).2 x hx
 ·rcases List.mem_append.1 hx with hx | hx
  ·exact h.ok x hx
  ·exact ho x hx
structure TD (S:Nat->Prop) (w:World) (vg vf:Value) (t:Tr):Prop where
 gs : ∀W,Tcs S w W->Globs W vg t.globals
 fs : ∃b off c,∃Q:List FV,vf = .slice (some ⟨b,off,none⟩) Q.length c/\Q.length<=c/\c<=9223372036854775807/\Q.map (fun q:FV=>q.f)=t.funcs/\∀W,Tcs S w W->(∀j u,(flatF Q)[j]? = some u->W.cell? ⟨b,off+j,none⟩=some u)/\PtF Q W
 gl:1<=t.globals.length/\t.globals.length<=20
 gn : ∀x∈t.globals,x.name.size<=100000
 fl:1<=t.funcs.length/\t.funcs.length<=20
 ok : ∀f∈t.funcs,okFn f
theorem TD.tcs {S:Nat->Prop} {w w':World} {vg vf:Value} {t:Tr} (h:TD S w vg vf t) (ht:Tcs S w w'):TD S w' vg vf t:=by
 obtain ⟨b,off,c,Q,h1,h2,h3,h4,h5⟩:=h.fs
 exact ⟨fun W hW=>h.gs W (ht.trans hW),⟨b,off,c,Q,h1,h2,h3,h4,fun W hW=>h5 W (ht.trans hW)⟩,h.gl,h.gn,h.fl,h.ok⟩
theorem TD.less {S S':Nat->Prop} {w:World} {vg vf:Value} {t:Tr} (h:TD S w vg vf t) (hs : ∀k,S' k->S k):TD S' w vg vf t:=by
 obtain ⟨b,off,c,Q,h1,h2,h3,h4,h5⟩:=h.fs
 exact ⟨fun W hW=>h.gs W (hW.mono hs),⟨b,off,c,Q,h1,h2,h3,h4,fun W hW=>h5 W (hW.mono hs)⟩,h.gl,h.gn,h.fl,h.ok⟩
theorem TD.funcs {S:Nat->Prop} {w:World} {vg vf:Value} {t:Tr} (h:TD S w vg vf t) : ∀W,Tcs S w W->Funcs W vf t.funcs:=fun W hW=>by
 obtain ⟨b,off,c,Q,rfl,h2,h3,h4,h5⟩:=h.fs
 obtain ⟨hc,hp⟩:=h5 W hW
 rw [<-h4]
 refine ⟨_,c,by rw [List.length_map],by rw [List.length_map];exact h2,h3,fun hp'=>⟨b,off,rfl,fun j hj => ?_⟩⟩
 rw [List.length_map] at hj
 have key : ∀i (hi:i<3),W.cell? ⟨b,off+j*3+i,none⟩=(cellsF Q[j])[i]? := fun i hi=>by
  have e:=flatF_get Q j i hj hi
  have hl:i<(cellsF Q[j]).length:=hi
  rw [List.getElem?_eq_getElem hl] at e ⊢
  rw [Nat.add_assoc]
  exact hc _ _ e
 obtain ⟨e1,e2,e3⟩:=hp Q[j] (List.getElem_mem hj)
 have e2:=e2.stmts
 rw [e3] at e2
 refine ⟨Q[j].vp,Q[j].vb,?_,?_,?_⟩
 ·simp only [List.getElem_map]
  exact ⟨key 0 (by omega),key 1 (by omega),key 2 (by omega)⟩
 ·simp only [List.getElem_map];exact e1
 ·simp only [List.getElem_map];exact e2
end
section
open Go.RowKit
def names4:List ByteArray:=[⟨#[102]⟩,⟨#[107]⟩,⟨#[100,101,101,112]⟩,⟨#[120,49]⟩]
def globs4:List Gl:=[⟨⟨#[103]⟩,0⟩,⟨⟨#[97]⟩,8⟩,⟨⟨#[104]⟩,0⟩,⟨⟨#[98]⟩,2⟩]
def gcells:List Value:=[.string ⟨#[103]⟩,.int .i64 0,.string ⟨#[97]⟩,.int .i64 8,.string ⟨#[104]⟩,.int .i64 0,.string ⟨#[98]⟩,.int .i64 2]
def ncells:List Value:=[.string ⟨#[102]⟩,.string ⟨#[107]⟩,.string ⟨#[100,101,101,112]⟩,.string ⟨#[120,49]⟩]
theorem globs_fr {W:World} {b:Nat} (h:FrC W b gcells):Globs W (.slice (some ⟨b,0,none⟩) 4 4) globs4:=by
 refine ⟨_,4,rfl,by decide,by decide,fun _=>⟨b,0,rfl,fun j hj => ?_⟩⟩
 have hj':j<4:=hj
 have:j=0∨j=1∨j=2∨j=3:=by omega
 rcases this with rfl | rfl | rfl | rfl
 ·exact ⟨(h 0 _ rfl).1,(h 1 _ rfl).1⟩
 ·exact ⟨(h 2 _ rfl).1,(h 3 _ rfl).1⟩
 ·exact ⟨(h 4 _ rfl).1,(h 5 _ rfl).1⟩
 ·exact ⟨(h 6 _ rfl).1,(h 7 _ rfl).1⟩
theorem names_fr {W:World} {b j:Nat} (h:FrC W b ncells) (hj:j<4) : ∃s,W.cell? ⟨b,j,none⟩=some (.string s)/\s.size<=100000:=by
 have:j=0∨j=1∨j=2∨j=3:=by omega
 rcases this with rfl | rfl | rfl | rfl
 ·exact ⟨_,(h 0 _ rfl).1,by decide⟩
 ·exact ⟨_,(h 1 _ rfl).1,by decide⟩
 ·exact ⟨_,(h 2 _ rfl).1,by decide⟩
 ·exact ⟨_,(h 3 _ rfl).1,by decide⟩
theorem tree_boxes (w:World) : ∃W1,W1=(((w.alloc (.cells #[.slice none 0 0,.slice none 0 0] 44)).alloc (.cells #[.string ⟨#[103]⟩,.int .i64 0,.string ⟨#[97]⟩,.int .i64 8,.string ⟨#[104]⟩,.int .i64 0,.string ⟨#[98]⟩,.int .i64 2] 81)).alloc (.cells #[.slice (some ⟨w.heap.size+1,0,none⟩) 4 4,.slice none 0 0] 44)).alloc (.cells #[.string ⟨#[102]⟩,.string ⟨#[107]⟩,.string ⟨#[100,101,101,112]⟩,.string ⟨#[120,49]⟩] 9) /\
  FrC W1 w.heap.size [.slice none 0 0,.slice none 0 0]/\FrC W1 (w.heap.size+1) gcells/\FrC W1 (w.heap.size+2) [.slice (some ⟨w.heap.size+1,0,none⟩) 4 4,.slice none 0 0]/\FrC W1 (w.heap.size+3) ncells/\Below w.heap.size w W1/\W1.heap.size=w.heap.size+4:=by
 refine ⟨_,rfl,?_,?_,?_,?_,?_,by simp⟩
 ·exact (((box_fr w _ _ (by decide)).below (bel_a _ _)).below (bel_a _ _)).below (bel_a _ _)
 ·have:=((box_fr (w.alloc (.cells #[.slice none 0 0,.slice none 0 0] 44)) #[.string ⟨#[103]⟩,.int .i64 0,.string ⟨#[97]⟩,.int .i64 8,.string ⟨#[104]⟩,.int .i64 0,.string ⟨#[98]⟩,.int .i64 2] 81 (by decide)).below ((Below.refl _ _).alloc (Nat.le_refl _) (.cells #[.slice (some ⟨w.heap.size+1,0,none⟩) 4 4,.slice none 0 0] 44))).below ((Below.refl _ _).alloc (Nat.le_refl _) (.cells #[.string ⟨#[102]⟩,.string ⟨#[107]⟩,.string ⟨#[100,101,101,112]⟩,.string ⟨#[120,49]⟩] 9))
  simp only [World.size_alloc] at this
  exact this
 ·have:=(box_fr ((w.alloc (.cells #[.slice none 0 0,.slice none 0 0] 44)).alloc (.cells #[.string ⟨#[103]⟩,.int .i64 0,.string ⟨#[97]⟩,.int .i64 8,.string ⟨#[104]⟩,.int .i64 0,.string ⟨#[98]⟩,.int .i64 2] 81)) #[.slice (some ⟨w.heap.size+1,0,none⟩) 4 4,.slice none 0 0] 44 (by simp)).below ((Below.refl _ _).alloc (Nat.le_refl _) (.cells #[.string ⟨#[102]⟩,.string ⟨#[107]⟩,.string ⟨#[100,101,101,112]⟩,.string ⟨#[120,49]⟩] 9))
  simp only [World.size_alloc] at this
  exact this
 ·have:=box_fr (((w.alloc (.cells #[.slice none 0 0,.slice none 0 0] 44)).alloc (.cells #[.string ⟨#[103]⟩,.int .i64 0,.string ⟨#[97]⟩,.int .i64 8,.string ⟨#[104]⟩,.int .i64 0,.string ⟨#[98]⟩,.int .i64 2] 81)).alloc (.cells #[.slice (some ⟨w.heap.size+1,0,none⟩) 4 4,.slice none 0 0] 44)) #[.string ⟨#[102]⟩,.string ⟨#[107]⟩,.string ⟨#[100,101,101,112]⟩,.string ⟨#[120,49]⟩] 9 (by decide)
  simp only [World.size_alloc] at this
  exact this
 ·exact (((bel_a _ _).alloc (by simp) _).alloc (by simp;omega) _).alloc (by simp;omega) _
def Sx (g T q:Nat):Nat->Prop:=fun k=>k=g∨k=T∨k=q
structure LID (g:Nat) (a:Option Addr) (len cap T q GL M:Nat) (W2 wr:World) (j:Nat):Prop where
 cur:Cur g a len cap wr
 tcs:Tcs (Sx g T q) W2 wr
 ex : ∃fa fn fc Q,FrC wr T [.slice (some ⟨GL,0,none⟩) 4 4,.slice fa fn fc]/\FR (fun k=>k<M) M wr (.slice fa fn fc) Q/\Q.length=j/\∃ca cn cc pa pn pc,∃(cs:List ByteArray) (ps:List Int),FrC wr q [.slice ca cn cc,.slice pa pn pc,.slice none 0 0,.slice none 0 0,.int .i64 0]/\(∀W,Tcs (Sv (Sx g T q) (.slice fa fn fc)) wr W->Strs W (.slice ca cn cc) cs/\Ints W (.slice pa pn pc) ps)/\cs.length=j/\ps.length=j/\(∀x∈ps,0<=x/\x<=6)/\∀x∈cs,x.size<=100000
structure PI (g:Nat) (a:Option Addr) (len cap F:Nat) (nm:ByteArray) (W3 wx:World) (k:Nat):Prop where
 cur:Cur g a len cap wx
 tcs:Tcs (fun b=>b=g∨b=F) W3 wx
 ex : ∃pa pn pc,∃ps:List ByteArray,FrC wx F [.string nm,.slice pa pn pc,.slice none 0 0]/\wx.ownsRow W3.heap.size 9 1 (.slice pa pn pc) ps.length (ps.map Value.string)/\ps.length=k/\∀x∈ps,x.size<=100000
theorem cat_size (s t:ByteArray):(s++t).size=s.size+t.size:=ByteArray.size_append
theorem param_step {g:Nat} {a:Option Addr} {len cap F:Nat} {nm:ByteArray} {W3 wr:World} {k:Nat} (h:PI g a len cap F nm W3 wr k) (hF:g<F/\F<W3.heap.size) (hL:Lo g a len (S0 g) F) (hk:k<=10) (A:ByteArray) (hA:A.size<=1000) (pa:Option Addr) (pn pc:Nat) (hy:wr.cell? ⟨F,1,none⟩=some (.slice pa pn pc)) (P2:Obj) :
  ∀w6 s w7,s.size<=1->Dr g a len cap (S0 g) (wr.drew.alloc P2) w6->Below w6.heap.size w6 w7->∃va vn vc w8,(Builtin.append_ #[73,73] 73 #[.slice pa pn pc,.slice (some ⟨w7.heap.size,0,none⟩) 1 1]).run Tryz.prog (w7.alloc (.cells #[.string (s++A)] 9)) = .ok (.slice va vn vc) w8/\(w6.cell? ⟨F,1,none⟩=some (.slice pa pn pc)/\w7.cell? ⟨F,1,none⟩=some (.slice pa pn pc)/\(w7.alloc (.cells #[.string (s++A)] 9)).cell? ⟨F,1,none⟩=some (.slice pa pn pc))/\w8.cell? ⟨F,1,none⟩=some (.slice pa pn pc)/\w8.frozen? ⟨F,1,none⟩=false/\PI g a len cap F nm W3 (w8.setCell ⟨F,1,none⟩ (.slice va vn vc)) (k+1):=by
 intro w6 s w7 hs hd hb
 obtain ⟨hcu,ht,pa',pn',pc',ps,hf,ho,hpk,hps⟩:=h
 have e:=(hf 1 _ rfl).1
 rw [hy] at e
 simp only [Option.some.injEq] at e
 rw [<-e] at hf ho
 have hlF:F<wr.heap.size:=Nat.lt_of_lt_of_le hF.2 ht.size
 have nF : ¬S0 g F:=fun e=>by have:F=g:=e;omega
 have t6:Tcs (S0 g) wr w6:=(((Tcs.refl (S0 g) wr).drew).alloc P2).trans hd.tcs
 have t7:Tcs (S0 g) wr w7:=t6.of_below hb
 have t7a:Tcs (S0 g) wr (w7.alloc (.cells #[.string (s++A)] 9)):=t7.alloc _
 have f6:=hf.tcs hlF t6 nF
 have f7:=hf.tcs hlF t7 nF
 have f7a:=hf.tcs hlF t7a nF
 have hS3 : ∀k,S0 g k->k<W3.heap.size:=fun k hk=>by have:k=g:=hk;omega
 have o7:=own_tcs ho t7a hS3
 obtain ⟨i0,hi,hz0,hz1,hz2⟩:=info_parts info_str
 have hlit:(w7.alloc (.cells #[.string (s++A)] 9)).ownsRow w7.heap.size 9 1 (.slice (some ⟨w7.heap.size,0,none⟩) 1 1) 1 [.string (s++A)]:=World.ownsRow_lit w7 #[.string (s++A)] 1 (Nat.le_refl _) (by decide) rfl
 obtain ⟨v8,w8,r8,o8,g8,-⟩:=run_appG (P:=Tryz.prog) (w:=w7.alloc (.cells #[.string (s++A)] 9)) W3.heap.size 73 73 9 i0 _ 1 16 Tryz.underlying73 hi hz0 hz1 hz2 rfl (by decide) (.slice pa pn pc) _ _ o7 (some ⟨w7.heap.size,0,none⟩) 1 1 [.string (s++A)] (fun e=>by cases e) rfl (fun ad had j u hu=>by cases had;exact World.ownsRow.cells hlit (g:=w7.heap.size) rfl j u hu) (fun u hu=>by simp at hu;subst hu;rfl) (by omega) (by decide) (Nat.le_trans ht.size t7a.size)
 obtain ⟨va,vc,rfl,-⟩:=own_shape o8
 have t8:Tcs (fun k=>W3.heap.size<=k) (w7.alloc (.cells #[.string (s++A)] 9)) w8:=Tcs.of_grown g8 (fun k hk=>(World.ownsRow.lt o7 k hk).1)
 have hl7:F<(w7.alloc (.cells #[.string (s++A)] 9)).heap.size:=Nat.lt_of_lt_of_le hlF t7a.size
 have f8:=f7a.tcs hl7 t8 (by omega)
 refine ⟨va,_,vc,w8,r8,⟨(f6 1 _ rfl).1,(f7 1 _ rfl).1,(f7a 1 _ rfl).1⟩,(f8 1 _ rfl).1,(f8 1 _ rfl).2,?_,?_,va,ps.length+1,vc,ps++[s++A],?_,?_,by simp [hpk],fun x hx => ?_⟩
 ·have c8:Cur g a len cap w8:=((hd.cur.below hb).alloc _).new (hL.mono (Nat.le_of_lt hF.2)) t8 (fun k hk=>hk)
  exact c8.keep ((Tcs.refl (fun k=>k=F) w8).setCell (p:=⟨F,1,none⟩) rfl _) (by omega) (fun b off x y e=>by have:=(hL.by8 b off x y).1;omega)
 ·refine ((ht.trans (t7a.mono fun k hk=>.inl hk)).next t8 (fun k hk=>.inr hk)).setCell (p:=⟨F,1,none⟩) (.inr rfl) _
 ·exact f8.set 1 _
 ·have e1:(ps++[s++A]).length=ps.length+1:=by simp
  have e2:(ps++[s++A]).map Value.string=ps.map Value.string++[.string (s++A)]:=by simp
  rw [e1,e2]
  refine own_tcs o8 ((Tcs.refl (fun k=>k=F) w8).setCell (p:=⟨F,1,none⟩) rfl _) (fun k hk=>by omega)
 ·rcases List.mem_append.1 hx with hx | hx
  ·exact hps x hx
  ·simp only [List.mem_singleton] at hx
   subst hx
   rw [cat_size]
   omega
def S5 (g T q F I:Nat) (v:Value):Nat->Prop:=fun k=>k=g∨k=T∨k=q∨k=F∨k=I∨v.ownBlock=some k
theorem gs_make {g:Nat} {a:Option Addr} {len cap T q F I:Nat} {wr W3 wx:World} {vF:Value} {ca pa px:Option Addr} {cn cc pn pc pm py:Nat} {cs qs:List ByteArray} {ps:List Int}
  (hst : ∀W,Tcs (Sv (Sx g T q) vF) wr W->Strs W (.slice ca cn cc) cs/\Ints W (.slice pa pn pc) ps) (hl:ps.length=cs.length/\cs.length<=4) (hpb:(∀x∈ps,0<=x/\x<=6)/\∀x∈cs,x.size<=100000)
  (hb:Below wr.heap.size wr W3) (hF:F=wr.heap.size) (hI:I=wr.heap.size+1) (hs:W3.heap.size=wr.heap.size+2) (hfI:FrC W3 I [.slice ca cn cc,.slice pa pn pc,.slice none 0 0,.slice none 0 0,.int .i64 0]) (hfz : ∀j,W3.frozen? ⟨I,j,none⟩=false)
  (hcu:Cur g a len cap wx) (ht:Tcs (fun b=>b=g∨b=F) W3 wx) (ho:wx.ownsRow W3.heap.size 9 1 (.slice px pm py) qs.length (qs.map Value.string)) (hq6:qs.length<=6) (hqs : ∀x∈qs,x.size<=100000)
  (hne:g<T/\T<wr.heap.size/\g<q/\q<wr.heap.size) (hL:Lo g a len (S0 g) T) (hTq:T<q) (hv : ∀k,vF.ownBlock=some k->q<k/\k<wr.heap.size) :
  GS g a len cap I (S5 g T q F I vF) (wx.setCell ⟨I,2,none⟩ (.slice px pm py)) ⟨.slice ca cn cc,.slice pa pn pc,.slice px pm py,.slice none 0 0,0,cs,ps,qs,[]⟩ 10/\FrC wx I [.slice ca cn cc,.slice pa pn pc,.slice none 0 0,.slice none 0 0,.int .i64 0]:=by
 have hIx:FrC wx I [.slice ca cn cc,.slice pa pn pc,.slice none 0 0,.slice none 0 0,.int .i64 0]:=hfI.tcs (by omega) ht (fun e=>by rcases e with e | e <;> omega)
 have hsx:=ht.size
 have h5 : ∀k,S5 g T q F I vF k->k<W3.heap.size:=fun k hk=>by
  rcases hk with h | h | h | h | h | h
  ·omega
  ·omega
  ·omega
  ·omega
  ·omega
  ·have:=(hv k h).2;omega
 refine ⟨?_,hIx⟩
 have hset:Tcs (S5 g T q F I vF) wx (wx.setCell ⟨I,2,none⟩ (.slice px pm py)):=(Tcs.refl _ _).setCell (p:=⟨I,2,none⟩) (.inr (.inr (.inr (.inr (.inl rfl))))) _
 have hf2:=hIx.set 2 (.slice px pm py)
 refine ⟨?_,⟨(hf2 0 _ rfl).1,(hf2 1 _ rfl).1,(hf2 2 _ rfl).1,(hf2 3 _ rfl).1,(hf2 4 _ rfl).1,fun j => ?_⟩,GnOk.tcs (w:=wx) ?_ hset,⟨?_,.inl rfl,fun b off x y => ?_,fun k hk => ?_⟩,.inr (.inr (.inr (.inr (.inl rfl)))),by omega⟩
 ·exact hcu.keep ((Tcs.refl (fun k=>k=I) wx).setCell (p:=⟨I,2,none⟩) rfl _) (by omega) (fun b off x y e=>by have:=(hL.by8 b off x y).1;omega)
 ·rw [World.frozen?_setCell]
  exact (World.frozen?_of_block (a:=⟨I,j,none⟩) (ht.block I (by omega) (fun e=>by rcases e with e | e <;> omega))).trans (hfz j)
 ·have key : ∀W,Tcs (S5 g T q F I vF) wx W->Tcs (Sv (Sx g T q) vF) wr W:=fun W hW=>by
   have h1:Tcs (Sv (Sx g T q) vF) wr wx:=(hb.tcs (S:=Sv (Sx g T q) vF)).next ht (fun k hk=>by
    rcases hk with hk | hk
    ·exact .inl (.inl (.inl hk))
    ·exact .inr (by omega))
   refine h1.next hW fun k hk => ?_
   rcases hk with h | h | h | h | h | h
   ·exact .inl (.inl (.inl h))
   ·exact .inl (.inl (.inr (.inl h)))
   ·exact .inl (.inl (.inr (.inr h)))
   ·exact .inr (by omega)
   ·exact .inr (by omega)
   ·exact .inl (.inr h)
  exact ⟨fun W hW=>(hst W (key W hW)).1,fun W hW=>(hst W (key W hW)).2,fun W hW=>own_strs (own_tcs ho hW h5),fun W _=>⟨none,0,rfl,Nat.le_refl _,by omega,fun h=>absurd h (Nat.lt_irrefl _)⟩,hl.1,by show cs.length<=10;omega,hpb.1,⟨hpb.2,hqs,fun x hx=>by cases hx⟩,by show qs.length<=10;omega,Nat.zero_le _,by show (0:Int)<=0/\(0:Int)<=10;omega⟩
 ·have:(wx.setCell ⟨I,2,none⟩ (.slice px pm py)).heap.size=wx.heap.size:=by simp
  omega
 ·have h8:=hL.by8 b off x y
  have:(wx.setCell ⟨I,2,none⟩ (.slice px pm py)).heap.size=wx.heap.size:=by simp
  refine ⟨by omega,fun e => ?_⟩
  rcases e with h | h | h | h | h | h
  ·exact h8.2 h
  ·omega
  ·omega
  ·omega
  ·omega
  ·have:=(hv b h).1;omega
 ·have:(wx.setCell ⟨I,2,none⟩ (.slice px pm py)).heap.size=wx.heap.size:=by simp
  have:=h5 k hk
  omega
theorem GS.side {g:Nat} {a:Option Addr} {len cap q:Nat} {S:Nat->Prop} {w:World} {G:Gn} {K:Nat} (h:GS g a len cap q S w G K) {b o:Nat} {v:Value} (hb:S b) (hg:b≠g) (hq:b≠q):GS g a len cap q S (w.setCell ⟨b,o,none⟩ v) G K:=by
 have ht:Tcs (fun k=>k=b) w (w.setCell ⟨b,o,none⟩ v):=(Tcs.refl (fun k=>k=b) w).setCell (p:=⟨b,o,none⟩) rfl v
 exact ⟨h.cur.keep ht (fun e=>hg e.symm) (fun b' off x y e=>(h.lo.by8 b' off x y).2 (e ▸ hb)),h.box.keep (ht.block q h.box.lt (fun e=>hq e.symm)),h.ok.tcs (ht.mono fun k hk=>hk ▸ hb),h.lo.mono ht.size,h.sq,h.ne⟩
theorem body_step {g:Nat} {a:Option Addr} {len cap F B L:Nat} {nm:ByteArray} {par:Value} {ba:Option Addr} {bn bc:Nat} {W13:World} {Rb:List SV} (hf:FrC W13 F [.string nm,par,.slice ba bn bc]) (hr:SR B W13 (.slice ba bn bc) Rb L) (hB:F<B/\B<=W13.heap.size) (hg:g<F) (hL:Lo g a len (S0 g) F) (hLm:L<=1000) :
  ∀w14 ua un uc ns,NRow W13.heap.size w14 (.slice ua un uc) ns->okN ns 400->Dr g a len cap (S0 g) W13.drew w14->∃va vn vc w15,(Builtin.append_ #[84,84] 84 #[.slice ba bn bc,.slice (some ⟨w14.heap.size,0,none⟩) 1 1]).run Tryz.prog (w14.alloc (.cells #[.int .i64 6,.string ⟨#[]⟩,.slice ua un uc,.slice none 0 0,.int .i64 0,.int .i64 0] 94)) = .ok (.slice va vn vc) w15/\(w14.cell? ⟨F,2,none⟩=some (.slice ba bn bc)/\(w14.alloc (.cells #[.int .i64 6,.string ⟨#[]⟩,.slice ua un uc,.slice none 0 0,.int .i64 0,.int .i64 0] 94)).cell? ⟨F,2,none⟩=some (.slice ba bn bc))/\w15.cell? ⟨F,2,none⟩=some (.slice ba bn bc)/\w15.frozen? ⟨F,2,none⟩=false/\(∃R',SR B (w15.setCell ⟨F,2,none⟩ (.slice va vn vc)) (.slice va vn vc) R' (L+1)/\R'.length=Rb.length+1)/\FrC (w15.setCell ⟨F,2,none⟩ (.slice va vn vc)) F [.string nm,par,.slice va vn vc]/\Cur g a len cap (w15.setCell ⟨F,2,none⟩ (.slice va vn vc))/\Tcs (fun b=>b=g∨b=F∨B<=b) W13 (w15.setCell ⟨F,2,none⟩ (.slice va vn vc)):=by
 intro w14 ua un uc ns hn ho hd
 have nF : ¬S0 g F:=fun e=>by have:F=g:=e;omega
 have hlF:F<W13.heap.size:=by omega
 have hSB : ∀k,S0 g k->k<B:=fun k hk=>by have:k=g:=hk;omega
 have t14:Tcs (S0 g) W13 w14:=((Tcs.refl (S0 g) W13).drew).trans hd.tcs
 have f14:=hf.tcs hlF t14 nF
 obtain ⟨o,hoo⟩ : ∃o:Obj,o = .cells #[.int .i64 6,.string ⟨#[]⟩,.slice ua un uc,.slice none 0 0,.int .i64 0,.int .i64 0] 94:=⟨_,rfl⟩
 have f14a:=f14.below ((Below.refl w14.heap.size w14).alloc (Nat.le_refl _) o)
 have hr14:=(hr.tcs t14 hSB).below ((Below.refl w14.heap.size w14).alloc (Nat.le_refl _) o)
 have hlit:=sr_lit (w:=w14) (B:=W13.heap.size) (kd:=6) (th:=0) (el:=0) (nm:=⟨#[]⟩) (vf:=.slice none 0 0) (f:=[]) t14.size (nrow_st hn (Nat.le_refl _)) (fun W _=>nodes_none W) (ho.e3 (by omega)) (okN.nil.more (Nat.zero_le _)) (by decide)
 rw [<-hoo] at hlit ⊢
 have hs14:B<=(w14.alloc o).heap.size:=by have:=t14.size;simp;omega
 obtain ⟨v15,w15,r15,h15,t15,-⟩:=sr_app 84 hr14 hlit hs14 (by omega) (sr_behind hlit hB.2 (fun k hk=>(hr.rng k hk).2))
 obtain ⟨va,vn,vc,rfl⟩ : ∃x y z,v15 = .slice x y z:=by obtain ⟨x,y,e⟩:=h15.shape;exact ⟨x,_,y,e⟩
 have t15':Tcs (fun k=>B<=k) (w14.alloc o) w15:=t15.mono fun k hk=>(hr.rng k hk).1
 have hlF2:F<(w14.alloc o).heap.size:=by omega
 have f15:=f14a.tcs hlF2 t15' (by omega)
 have tS:Tcs (fun k=>k=F) w15 (w15.setCell ⟨F,2,none⟩ (.slice va vn vc)):=(Tcs.refl (fun k=>k=F) w15).setCell (p:=⟨F,2,none⟩) rfl _
 refine ⟨va,vn,vc,w15,r15,⟨(f14 2 _ rfl).1,(f14a 2 _ rfl).1⟩,(f15 2 _ rfl).1,(f15 2 _ rfl).2,⟨_,h15.tcs tS (fun k hk=>by omega),by simp⟩,f15.set 2 _,?_,?_⟩
 ·have c15:Cur g a len cap w15:=(hd.cur.alloc o).new (hL.mono (by omega)) t15' (fun k hk=>hk)
  exact c15.keep tS (by omega) (fun b off x y e=>by have:=(hL.by8 b off x y).1;omega)
 ·exact ((((t14.mono fun k hk=>.inl hk).alloc o).trans (t15'.mono fun k hk=>.inr (.inr hk)))).trans (tS.mono fun k hk=>.inr (.inl hk))
theorem func_step {g:Nat} {a:Option Addr} {len cap T F B Bp M:Nat} {nm:ByteArray} {vG:Value} {fa px ba:Option Addr} {fn fc pm py bn bc:Nat} {W16:World} {Q:List FV} {qs:List ByteArray} {R':List SV} {L:Nat}
  (hT:FrC W16 T [vG,.slice fa fn fc]) (hF:FrC W16 F [.string nm,.slice px pm py,.slice ba bn bc]) (hfr:FR (fun k=>k<M) M W16 (.slice fa fn fc) Q) (hQ:Q.length<=10) (hcu:Cur g a len cap W16) (hne:g<T/\T<M/\M<=W16.heap.size/\M<=F/\F<W16.heap.size) (hL:Lo g a len (S0 g) T)
  (hp : ∀W,Tcs (fun b=>b<Bp) W16 W->Strs W (.slice px pm py) qs) (hBp:M<=Bp) (hq:qs.length<=6/\∀x∈qs,x.size<=100000) (hn:nm.size<=100000) (hr:SR B W16 (.slice ba bn bc) R' L) (hL2:1<=R'.length/\L<=1000) (hMB:M<=B) (hvF : ∀k,(Value.slice fa fn fc).ownBlock=some k->k<B/\k<Bp/\k≠F) :
  ∃va vn vc w17,(Builtin.append_ #[42,42] 42 #[.slice fa fn fc,.slice (some ⟨W16.heap.size,0,none⟩) 1 1]).run Tryz.prog (W16.alloc (.cells #[.string nm,.slice px pm py,.slice ba bn bc] 86)) = .ok (.slice va vn vc) w17/\(w17.cell? ⟨T,1,none⟩=some (.slice fa fn fc)/\w17.frozen? ⟨T,1,none⟩=false)/\FrC (w17.setCell ⟨T,1,none⟩ (.slice va vn vc)) T [vG,.slice va vn vc]/\FrC (w17.setCell ⟨T,1,none⟩ (.slice va vn vc)) F [.string nm,.slice px pm py,.slice ba bn bc]/\(∃Q',FR (fun k=>k<M) M (w17.setCell ⟨T,1,none⟩ (.slice va vn vc)) (.slice va vn vc) Q'/\Q'.length=Q.length+1)/\Cur g a len cap (w17.setCell ⟨T,1,none⟩ (.slice va vn vc))/\(∀W,Tcs (fun b=>b=T∨(Value.slice va vn vc).ownBlock=some b) (w17.setCell ⟨T,1,none⟩ (.slice va vn vc)) W->Tcs (fun b=>b=T∨(Value.slice fa fn fc).ownBlock=some b) W16 W)/\Tcs (fun b=>b=T∨(Value.slice fa fn fc).ownBlock=some b) W16 (w17.setCell ⟨T,1,none⟩ (.slice va vn vc)):=by
 obtain ⟨o,hoo⟩ : ∃o:Obj,o = .cells #[.string nm,.slice px pm py,.slice ba bn bc] 86:=⟨_,rfl⟩
 have hb:Bl W16 (W16.alloc o):=bel_a _ _
 have hc:FrC (W16.alloc o) W16.heap.size [.string nm,.slice px pm py,.slice ba bn bc]:=by rw [hoo];exact box_fr W16 _ _ (by simp)
 have hall : ∀W,Tcs (fun k=>k<M∨(Value.slice fa fn fc).ownBlock=some k) (W16.alloc o) W->PtF [⟨⟨nm,qs,R'.map (·.s)⟩,.slice px pm py,.slice ba bn bc,R',[],[]⟩] W:=fun W hW x hx=>by
  simp only [List.mem_singleton] at hx
  subst hx
  have hW':Tcs (fun b=>b<B) W16 W:=(hb.tcs (S:=fun b=>b<B)).trans (hW.mono fun k hk=>by
   rcases hk with hk | hk
   ·omega
   ·have:=hvF k hk;omega)
  have hW2:Tcs (fun b=>b<Bp) W16 W:=(hb.tcs (S:=fun b=>b<Bp)).trans (hW.mono fun k hk=>by
   rcases hk with hk | hk
   ·omega
   ·have:=hvF k hk;omega)
  exact ⟨hp W hW2,hr.rd W hW',rfl⟩
 have hok:okFn ⟨nm,qs,R'.map (·.s)⟩:=⟨hn,by show qs.length<=20;omega,hq.2,by show 1<=(R'.map (·.s)).length;simp;omega,by show (R'.map (·.s)).length<=10000;have:=hr.len;simp;omega,hr.ok.body⟩
 obtain ⟨v17,w17,r17,h17,t17,f17⟩:=fr_app 42 (c:=1) (m:=1) (hfr.below hb) (some ⟨W16.heap.size,0,none⟩) (Q2:=[⟨⟨nm,qs,R'.map (·.s)⟩,.slice px pm py,.slice ba bn bc,R',[],[]⟩]) rfl (fun e=>by cases e) (fun ad had j u hu=>by
  cases had
  rw [addrO,Nat.zero_add]
  exact (hc j u hu).1) (fun x hx=>by simp only [List.mem_singleton] at hx;subst hx;exact ⟨rfl,rfl⟩) (fun x hx=>by simp only [List.mem_singleton] at hx;subst hx;exact hok) hall (by simp;omega) (by have:=hb.size;omega)
 obtain ⟨va,vn,vc,rfl⟩ : ∃x y z,v17 = .slice x y z:=by obtain ⟨x,y,e⟩:=h17.shape;exact ⟨x,_,y,e⟩
 rw [hoo] at r17
 have t17':Tcs (fun k=>M<=k) (W16.alloc o) w17:=t17.mono fun k hk=>(hfr.rng k hk).1
 have hT17:=(hT.below hb).tcs (by have:=hb.size;omega) t17' (by omega)
 have hF17:=(hF.below hb).tcs (by have:=hb.size;omega) t17 (fun e=>(hvF F e).2.2 rfl)
 have tS:Tcs (fun k=>k=T) w17 (w17.setCell ⟨T,1,none⟩ (.slice va vn vc)):=(Tcs.refl (fun k=>k=T) w17).setCell (p:=⟨T,1,none⟩) rfl _
 have hs17:F<w17.heap.size:=by have:=hb.size;have:=t17.size;omega
 have tA:Tcs (fun b=>b=T∨(Value.slice fa fn fc).ownBlock=some b) W16 (w17.setCell ⟨T,1,none⟩ (.slice va vn vc)):=((hb.tcs (S:=fun b=>b=T∨(Value.slice fa fn fc).ownBlock=some b)).trans (t17.mono fun k hk=>.inr hk)).trans (tS.mono fun k hk=>.inl hk)
 refine ⟨va,vn,vc,w17,r17,⟨(hT17 1 _ rfl).1,(hT17 1 _ rfl).2⟩,hT17.set 1 _,hF17.tcs hs17 tS (by omega),⟨_,h17.tcs (tS.mono fun k hk=>by omega) (fun k hk=>hk),by simp⟩,?_,fun W hW => ?_,tA⟩
 ·have c17:Cur g a len cap w17:=(hcu.alloc o).new (hL.mono (Nat.le_of_lt hne.2.1)) t17' (fun k hk=>hk)
  exact c17.keep tS (by omega) (fun b off x y e=>by have:=(hL.by8 b off x y).1;omega)
 ·refine tA.next hW fun k hk => ?_
  rcases hk with hk | hk
  ·exact .inl (.inl hk)
  ·rcases f17 k hk with h | h
   ·exact .inl (.inr h)
   ·exact .inr (by have:=hb.size;omega)
def BdD (g:Nat) (a:Option Addr) (len cap F B L r:Nat) (nm:ByteArray) (par:Value) (W13 W:World):Prop:=∃va vn vc R',FrC W F [.string nm,par,.slice va vn vc]/\SR B W (.slice va vn vc) R' (L+1)/\R'.length=r+1/\Cur g a len cap W/\Tcs (fun b=>b=g∨b=F∨B<=b) W13 W
def CalD (q:Nat) (W17:World) (vp:Value) (cs:List ByteArray) (W:World):Prop:=∃xa xn xc,FrC W q [.slice xa xn xc,vp,.slice none 0 0,.slice none 0 0,.int .i64 0]/\W.ownsRow W17.heap.size 9 1 (.slice xa xn xc) cs.length (cs.map Value.string)/\Tcs (fun b=>b=q) W17 W
theorem cal_fin {q:Nat} {W17 w2:World} {vc vp:Value} {v2:Value} {cs:List ByteArray} (hq:FrC W17 q [vc,vp,.slice none 0 0,.slice none 0 0,.int .i64 0]) (hl:q<W17.heap.size) (hb:Below W17.heap.size W17 w2) (hr:w2.ownsRow W17.heap.size 9 1 v2 cs.length (cs.map Value.string)) : ∃xa xn xc,v2 = .slice xa xn xc/\(w2.cell? ⟨q,0,none⟩=some vc/\w2.frozen? ⟨q,0,none⟩=false)/\CalD q W17 vp cs (w2.setCell ⟨q,0,none⟩ v2):=by
 obtain ⟨xa,xc,rfl,-⟩:=own_shape hr
 have h2:=hq.below hb
 have tS:Tcs (fun b=>b=q) w2 (w2.setCell ⟨q,0,none⟩ (.slice xa cs.length xc)):=(Tcs.refl (fun b=>b=q) w2).setCell (p:=⟨q,0,none⟩) rfl _
 exact ⟨xa,_,xc,rfl,h2 0 _ rfl,xa,_,xc,h2.set 0 _,own_tcs hr tS (fun k hk=>by omega),(hb.tcs (S:=fun b=>b=q)).trans tS⟩
theorem info_i64D:(Tryz.prog.info? 2).map (fun i=>(i.zero,i.size,i.bytes))=some (some (.int .i64 0),1,8):=by kernel_rfl
theorem ia_app (w:World) (v:Value) (ps:List Int) (z:Int) (h:Ints w v ps) (hl:ps.length<=100000) (ty:TypeId) :
  ∃v1 w1 a2 n2 c2 w2,(Builtin.append_ #[27,27] ty #[.slice (some ⟨w.heap.size,0,none⟩) 0 0,v]).run Tryz.prog (w.alloc (.cells #[] 2)) = .ok v1 w1/\(Builtin.append_ #[27,27] ty #[v1,.slice (some ⟨w1.heap.size,0,none⟩) 1 1]).run Tryz.prog (w1.alloc (.cells #[.int .i64 z] 2)) = .ok (.slice a2 n2 c2) w2/\w2.ownsRow w.heap.size 2 1 (.slice a2 n2 c2) (ps++[z]).length ((ps++[z]).map (Value.int .i64))/\Below w.heap.size w w2:=by
 obtain ⟨i0,hi,hz0,hz1,hz2⟩:=info_parts info_i64D
 have hb0:Bl w (w.alloc (.cells #[] 2)):=bel_a _ _
 have h0:(w.alloc (.cells #[] 2)).ownsRow w.heap.size 2 1 (.slice (some ⟨w.heap.size,0,none⟩) 0 0) 0 []:=World.ownsRow_lit w #[] 0 (Nat.le_refl _) (by decide) rfl
 obtain ⟨a,c,rfl,hc⟩:=h.below hb0
 obtain ⟨v1,w1,r1,o1,g1,-⟩:=run_appG (P:=Tryz.prog) (w:=w.alloc (.cells #[] 2)) w.heap.size 27 ty 2 i0 _ 1 8 Tryz.underlying27 hi hz0 hz1 hz2 rfl (by decide) _ 0 [] h0 a ps.length c (ps.map (Value.int .i64)) (fun e=>by
  rcases Nat.eq_zero_or_pos ps.length with h' | h'
  ·exact h'
  ·obtain ⟨b,e',-⟩:=hc h'
   rw [e] at e';cases e') (by simp) (fun ad had j u hu=>by
  have hj:j<ps.length:=by have:=(List.getElem?_eq_some_iff.1 hu).1;simpa using this
  obtain ⟨b,e',hcc⟩:=hc (by omega)
  rw [had] at e'
  cases e'
  rw [addrO,Nat.zero_add]
  have:=hcc j hj
  rw [this]
  simp [List.getElem?_eq_getElem hj] at hu
  rw [hu]) (fun u hu=>by obtain ⟨x,-,rfl⟩:=List.mem_map.1 hu;rfl) (by omega) (by decide) hb0.size
 have hb1:Bl w w1:=hb0.grown g1 hb0.size (fun j hj=>(World.ownsRow.lt h0 j hj).1)
 have hb2:Bl w (w1.alloc (.cells #[.int .i64 z] 2)):=hb1.alloc hb1.size _
 have o1':=ownB o1 ((Below.refl w1.heap.size w1).alloc (Nat.le_refl _) (.cells #[.int .i64 z] 2))
 have hlit:(w1.alloc (.cells #[.int .i64 z] 2)).ownsRow w1.heap.size 2 1 (.slice (some ⟨w1.heap.size,0,none⟩) 1 1) 1 [.int .i64 z]:=World.ownsRow_lit w1 #[.int .i64 z] 1 (Nat.le_refl _) (by decide) rfl
 obtain ⟨v2,w2,r2,o2,g2,-⟩:=run_appG (P:=Tryz.prog) (w:=w1.alloc (.cells #[.int .i64 z] 2)) w.heap.size 27 ty 2 i0 _ 1 8 Tryz.underlying27 hi hz0 hz1 hz2 rfl (by decide) v1 _ _ o1' (some ⟨w1.heap.size,0,none⟩) 1 1 [.int .i64 z] (fun e=>by cases e) rfl (fun ad had j u hu=>by cases had;exact World.ownsRow.cells hlit (g:=w1.heap.size) rfl j u hu) (fun u hu=>by simp at hu;subst hu;rfl) (by omega) (by decide) hb2.size
 obtain ⟨a2,c2,rfl,-⟩:=own_shape o2
 refine ⟨v1,w1,a2,_,c2,w2,r1,r2,?_,hb2.grown g2 hb2.size (fun j hj=>(World.ownsRow.lt o1' j hj).1)⟩
 have e1:(ps++[z]).length=0+ps.length+1:=by simp
 have e2:(ps++[z]).map (Value.int .i64) = []++ps.map (Value.int .i64)++[.int .i64 z]:=by simp
 rw [e1,e2]
 exact o2
end
section
open Go.RowKit
def S4 (g T q I:Nat) (v:Value):Nat->Prop:=fun k=>k=g∨k=T∨k=q∨k=I∨v.ownBlock=some k
theorem gs_main {g:Nat} {a:Option Addr} {len cap T q:Nat} {wr:World} {vF:Value} {ca pa:Option Addr} {cn cc pn pc:Nat} {cs:List ByteArray} {ps:List Int}
  (hst : ∀W,Tcs (Sv (Sx g T q) vF) wr W->Strs W (.slice ca cn cc) cs/\Ints W (.slice pa pn pc) ps) (hl:ps.length=cs.length/\cs.length<=4) (hpb:(∀x∈ps,0<=x/\x<=6)/\∀x∈cs,x.size<=100000)
  (hcu:Cur g a len cap wr) (hne:g<T/\T<wr.heap.size/\g<q/\q<wr.heap.size) (hL:Lo g a len (S0 g) T) (hTq:T<q) (hv : ∀k,vF.ownBlock=some k->q<k/\k<wr.heap.size) :
  GS g a len cap wr.heap.size (S4 g T q wr.heap.size vF) (wr.alloc (.cells #[.slice ca cn cc,.slice pa pn pc,.slice none 0 0,.slice none 0 0,.int .i64 0] 83)) ⟨.slice ca cn cc,.slice pa pn pc,.slice none 0 0,.slice none 0 0,0,cs,ps,[],[]⟩ 10:=by
 have hf:=box_fr wr #[.slice ca cn cc,.slice pa pn pc,.slice none 0 0,.slice none 0 0,.int .i64 0] 83 (by simp)
 have hs:(wr.alloc (.cells #[.slice ca cn cc,.slice pa pn pc,.slice none 0 0,.slice none 0 0,.int .i64 0] 83)).heap.size=wr.heap.size+1:=by simp
 refine ⟨hcu.alloc _,⟨(hf 0 _ rfl).1,(hf 1 _ rfl).1,(hf 2 _ rfl).1,(hf 3 _ rfl).1,(hf 4 _ rfl).1,fun j=>by simp⟩,?_,⟨by omega,.inl rfl,fun b off x y => ?_,fun k hk => ?_⟩,.inr (.inr (.inr (.inl rfl))),by omega⟩
 ·have key : ∀W,Tcs (S4 g T q wr.heap.size vF) (wr.alloc (.cells #[.slice ca cn cc,.slice pa pn pc,.slice none 0 0,.slice none 0 0,.int .i64 0] 83)) W->Tcs (Sv (Sx g T q) vF) wr W:=fun W hW=>((Tcs.refl (Sv (Sx g T q) vF) wr).alloc _).next hW fun k hk=>by
   rcases hk with h | h | h | h | h
   ·exact .inl (.inl (.inl h))
   ·exact .inl (.inl (.inr (.inl h)))
   ·exact .inl (.inl (.inr (.inr h)))
   ·exact .inr (by omega)
   ·exact .inl (.inr h)
  have nil : ∀W,Strs W (.slice none 0 0) []:=fun W=>⟨none,0,rfl,Nat.le_refl _,by omega,fun h=>absurd h (Nat.lt_irrefl _)⟩
  exact ⟨fun W hW=>(hst W (key W hW)).1,fun W hW=>(hst W (key W hW)).2,fun W _=>nil W,fun W _=>nil W,hl.1,by show cs.length<=10;omega,hpb.1,⟨hpb.2,(fun x hx=>by cases hx),(fun x hx=>by cases hx)⟩,Nat.zero_le _,Nat.zero_le _,by show (0:Int)<=0/\(0:Int)<=10;omega⟩
 ·have h8:=hL.by8 b off x y
  refine ⟨by omega,fun e => ?_⟩
  rcases e with h | h | h | h | h
  ·exact h8.2 h
  ·omega
  ·omega
  ·omega
  ·have:=(hv b h).1;omega
 ·rcases hk with h | h | h | h | h
  ·omega
  ·omega
  ·omega
  ·omega
  ·have:=(hv k h).2;omega
theorem front_step {g:Nat} {a:Option Addr} {len cap T B M:Nat} {nm:ByteArray} {vG:Value} {fa ba:Option Addr} {fn fc bn bc:Nat} {W16:World} {Q:List FV} {R':List SV} {L:Nat}
  (hT:FrC W16 T [vG,.slice fa fn fc]) (hfr:FR (fun k=>k<M) M W16 (.slice fa fn fc) Q) (hQ:Q.length<=10) (hcu:Cur g a len cap W16) (hne:g<T/\T<M/\M<=W16.heap.size) (hL:Lo g a len (S0 g) T) (hn:nm.size<=100000) (hr:SR B W16 (.slice ba bn bc) R' L) (hL2:1<=R'.length/\L<=1000) (hMB:M<=B) :
  ∃va vn vc w17,(Builtin.append_ #[42,42] 42 #[.slice (some ⟨W16.heap.size,0,none⟩) 1 1,.slice fa fn fc]).run Tryz.prog (W16.alloc (.cells #[.string nm,.slice none 0 0,.slice ba bn bc] 86)) = .ok (.slice va vn vc) w17/\(w17.cell? ⟨T,1,none⟩=some (.slice fa fn fc)/\w17.frozen? ⟨T,1,none⟩=false)/\FrC (w17.setCell ⟨T,1,none⟩ (.slice va vn vc)) T [vG,.slice va vn vc]/\(∃Q',FR (fun k=>k<M) M (w17.setCell ⟨T,1,none⟩ (.slice va vn vc)) (.slice va vn vc) Q'/\Q'.length=Q.length+1)/\Cur g a len cap (w17.setCell ⟨T,1,none⟩ (.slice va vn vc))/\Tcs (fun b=>b=T) W16 (w17.setCell ⟨T,1,none⟩ (.slice va vn vc)):=by
 obtain ⟨o,hoo⟩ : ∃o:Obj,o = .cells #[.string nm,.slice none 0 0,.slice ba bn bc] 86:=⟨_,rfl⟩
 have hb:Bl W16 (W16.alloc o):=bel_a _ _
 have hok:okFn ⟨nm,[],R'.map (·.s)⟩:=⟨hn,by show (0:Nat)<=20;omega,(fun p hp=>by cases hp),by show 1<=(R'.map (·.s)).length;simp;omega,by show (R'.map (·.s)).length<=10000;have:=hr.len;simp;omega,hr.ok.body⟩
 have hlit:FR (fun k=>k<M) M (W16.alloc o) (.slice (some ⟨W16.heap.size,0,none⟩) 1 1) [⟨⟨nm,[],R'.map (·.s)⟩,.slice none 0 0,.slice ba bn bc,R',[],[]⟩]:=by
  refine ⟨⟨?_,fun W hW x hx => ?_⟩,fun x hx=>by simp only [List.mem_singleton] at hx;subst hx;exact hok⟩
  ·rw [hoo]
   exact World.ownsRow_lit W16 #[.string nm,.slice none 0 0,.slice ba bn bc] 1 hne.2.2 (by decide) rfl
  ·simp only [List.mem_singleton] at hx
   subst hx
   have hW':Tcs (fun b=>b<B) W16 W:=(hb.tcs (S:=fun b=>b<B)).next hW fun k hk=>by
    rcases hk with hk | hk
    ·exact .inl (by omega)
    ·simp only [Value.ownBlock,Option.some.injEq] at hk
     exact .inr (by omega)
   exact ⟨⟨none,0,rfl,Nat.le_refl _,by omega,fun h=>absurd h (Nat.lt_irrefl _)⟩,hr.rd W hW',rfl⟩
 have hfa:=hfr.below hb
 obtain ⟨a',c',he,hnn,hcc⟩:=own_shape hfa.row.row
 simp only [Value.slice.injEq] at he
 obtain ⟨rfl,hfn,rfl⟩:=he
 obtain ⟨v17,w17,r17,h17,t17,f17⟩:=fr_app 42 (c:=fc) (m:=fn) hlit fa (Q2:=Q) hfn (fun e=>by rw [hfn];exact hnn e) hcc (fun x hx=>by
  obtain ⟨e1,e2,-⟩:=hfa.row.now x hx
  obtain ⟨_,_,e1,-⟩:=e1
  exact ⟨by rw [e1];rfl,e2.one⟩) hfr.ok (fun W hW=>hfr.row.st W ((hb.tcs (S:=fun k=>k<M∨(Value.slice fa fn fc).ownBlock=some k)).next hW fun k hk=>by
   rcases hk with hk | hk
   ·exact .inl (.inl hk)
   ·simp only [Value.ownBlock,Option.some.injEq] at hk
    exact .inr (by omega))) (by simp;omega) (by have:=hb.size;omega)
 obtain ⟨va,vn,vc,rfl⟩ : ∃x y z,v17 = .slice x y z:=by obtain ⟨x,y,e⟩:=h17.shape;exact ⟨x,_,y,e⟩
 rw [hoo] at r17
 have t17':Tcs (fun k=>W16.heap.size<=k) (W16.alloc o) w17:=t17.mono fun k hk=>by simp only [Value.ownBlock,Option.some.injEq] at hk;omega
 have hT17:=(hT.below hb).tcs (by have:=hb.size;omega) t17' (by omega)
 have tS:Tcs (fun k=>k=T) w17 (w17.setCell ⟨T,1,none⟩ (.slice va vn vc)):=(Tcs.refl (fun k=>k=T) w17).setCell (p:=⟨T,1,none⟩) rfl _
 refine ⟨va,vn,vc,w17,r17,⟨(hT17 1 _ rfl).1,(hT17 1 _ rfl).2⟩,hT17.set 1 _,⟨_,h17.tcs (tS.mono fun k hk=>by omega) (fun k hk=>hk),by simp⟩,?_,?_⟩
 ·have c17:Cur g a len cap w17:=(hcu.alloc o).new (hL.mono (by omega)) t17' (fun k hk=>hk)
  exact c17.keep tS (by omega) (fun b off x y e=>by have:=(hL.by8 b off x y).1;omega)
 ·exact ((hb.tcs (S:=fun b=>b=T)).next t17' (fun k hk=>.inr hk)).trans tS
theorem td_fin {g:Nat} {a:Option Addr} {len cap GL M:Nat} {w W2 W:World} {va:Option Addr} {vn vc:Nat} {Q':List FV} (hg:FrC W GL gcells) (hGL:w.heap.size<=GL/\GL<W.heap.size) (hfr:FR (fun k=>k<M) M W (.slice va vn vc) Q') (hM:w.heap.size<=M) (hQ:1<=Q'.length/\Q'.length<=20) : ∃t,TD (fun k=>k<w.heap.size) W (.slice (some ⟨GL,0,none⟩) 4 4) (.slice va vn vc) t:=by
 refine ⟨⟨globs4,Q'.map (fun q:FV=>q.f)⟩,fun W' hW=>globs_fr (hg.tcs hGL.2 hW (by omega)),?fs,⟨(by decide:1<=globs4.length),(by decide:globs4.length<=20)⟩,?_,⟨by simp;omega,by simp;omega⟩,?_⟩
 case fs=>
  have h0:=hfr.row.row
  rcases h0.2 with ⟨-,hz⟩ | ⟨b,cap,cur,e,h3,h4,h5⟩
  ·omega
  ·obtain ⟨q1,q2,-⟩:=h5
   unfold maxLen at q2
   refine ⟨b,0,cap,Q',e,q1,q2,rfl,fun W' hW => ?_⟩
   have hW':Tcs (fun k=>k<M) W W':=hW.mono fun k hk=>by omega
   refine ⟨fun j u hu => ?_,hfr.row.st W' (hW'.mono fun k hk=>.inl hk)⟩
   rw [e] at h0
   have:=World.ownsRow.cells (own_tcs h0 hW' (fun k hk=>hk)) (g:=b) rfl j u hu
   rwa [addrO] at this
 ·intro x hx
  simp only [globs4,List.mem_cons,List.not_mem_nil,or_false] at hx
  rcases hx with rfl | rfl | rfl | rfl <;> decide
 ·intro f hf
  obtain ⟨x,hx,rfl⟩:=List.mem_map.1 hf
  exact hfr.ok x hx
end
end Go.Proofs.YtpdndlghjldhjaaGreat
