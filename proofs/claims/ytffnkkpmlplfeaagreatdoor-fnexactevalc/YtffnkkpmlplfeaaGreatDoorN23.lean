import Derived.Test.YtffnkkpmlplfeaaGreatDoorN19
import Derived.Deep.RegionHeld3
namespace Go.Proofs.YtffnkkpmlplfeaaGreatDoor
open Go.Proofs.Tryz
open Go.RowKit
set_option linter.all false
set_option maxRecDepth 100000
set_option maxHeartbeats 16000000
variable[Inhabited Pick]
section
variable {w w':World} {t u:TypeId} {a0 a1 a2 b0 b1 b2:Value}
theorem bcell {W w1:World} (hb:Below W.heap.size W w1):(∀b o,b<W.heap.size->w1.cell? ⟨b,o,none⟩=W.cell? ⟨b,o,none⟩)/\(∀b o,b<W.heap.size->w1.frozen? ⟨b,o,none⟩=W.frozen? ⟨b,o,none⟩):=
 ⟨λb o h=>hb.cell (p:=⟨b,o,none⟩) h,λb o h=>hb.frozen (p:=⟨b,o,none⟩) h⟩
theorem eqNode_any (n:Nd) (w:World):Calls prog 204 #[.agg #[.int .i64 n.kind,.int .i64 n.val,.string n.name],.agg #[.int .i64 n.kind,.int .i64 n.val,.string n.name]] w λe w'=>e=.returned (.bool true)/\Below w.heap.size w w':=by
 obtain⟨k,v,s⟩:=n;simp only;go_enter func204,ntmps204;go_wp2;go_ret;exact⟨rfl,(bel_a _ _).alloc (by simp) _⟩
theorem eqNodes_any (v1 v2:Value) (ns:List Nd) (w:World) (hl:ns.length<=1048576) (h1:Nodes w v1 ns) (h2:Nodes w v2 ns) :
  Calls prog 178 #[v1,v2] w λe w'=>e=.returned (.bool true)/\Below w.heap.size w w':=by
 obtain⟨a1,c1,rfl,-,-,hc1⟩:=h1;obtain⟨a2,c2,rfl,-,-,hc2⟩:=h2;obtain⟨H1,H2⟩:=h2 hc1 hc2;go_enter func178,ntmps178;go_wp2_with fail;go_loopw [5] (λi wr=>∃k:Nat,k<=ns.length/\i=.int .i64 k/\Bl w wr) (λi _=>ns.length-(RowKit.intOf i).toNat)
 case atStart=>exact⟨0,y_,rfl,r_⟩
 case round=>
  obtain⟨k,hk,rfl,hB⟩:=hrel;by_cases hlt:k<ns.length
  ·obtain⟨b1,o1,rfl,hx1⟩:=H1 o_;obtain⟨b2,o2,rfl,hx2⟩:=H2 o_;obtain⟨d0,d1,d2⟩:=(hx1.below hB) k hlt;obtain⟨e0,e1,e2⟩:=(hx2.below hB) k hlt;have l1:=b_ d0;have l2:=b_ e0;simp only at l1 l2;generalize ns[k]=n at d0 d1 d2 e0 e1 e2;go_wp2_with fail;go_region_held3 (λW=>W.cell? ⟨b1,o1+k*3,none⟩=some (.int .i64 n.kind)/\W.cell? ⟨b1,o1+k*3+1,none⟩=some (.int .i64 n.val)/\W.cell? ⟨b1,o1+k*3+2,none⟩=some (.string n.name)/\W.cell? ⟨b2,o2+k*3,none⟩=some (.int .i64 n.kind)/\W.cell? ⟨b2,o2+k*3+1,none⟩=some (.int .i64 n.val)/\W.cell? ⟨b2,o2+k*3+2,none⟩=some (.string n.name)) (go_simp)
    (first
    | (go_at_call 204;refine (eqNode_any n _).mono ?_;rintro e w2 ⟨rfl,hb2⟩;have hcc : ∀b o,b<wr.heap.size->w2.cell? ⟨b,o,none⟩=wr.cell? ⟨b,o,none⟩:=(bcell hb2).1))
   have hB2:=hB.trans (((r_.drew).trans hb2).mono hB.size);go_wp2_with fail;go_roundw
   case rel=>exact⟨k+1,by omega,by go_num,hB2⟩
   case measure=>simp[RowKit.intOf];omega
  ·go_wp2;go_ret;exact⟨rfl,hB⟩
theorem eqGlob_any (n:Gl) (w:World):Calls prog 71 #[.agg #[.string n.name,.int .i64 n.size],.agg #[.string n.name,.int .i64 n.size]] w λe w'=>e=.returned (.bool true)/\Below w.heap.size w w':=by
 obtain⟨s,z⟩:=n;simp only;go_enter func71,ntmps71;go_wp2;go_ret;exact⟨rfl,(bel_a _ _).alloc (by simp) _⟩
theorem eqGlobs_any (v1 v2:Value) (ns:List Gl) (w:World) (hl:ns.length<=1048576) (h1:Globs w v1 ns) (h2:Globs w v2 ns) :
  Calls prog 41 #[v1,v2] w λe w'=>e=.returned (.bool true)/\Below w.heap.size w w':=by
 obtain⟨a1,c1,rfl,-,-,hc1⟩:=h1;obtain⟨a2,c2,rfl,-,-,hc2⟩:=h2;obtain⟨H1,H2⟩:=h2 hc1 hc2;go_enter func41,ntmps41;go_wp2_with fail;go_loopw [5] (λi wr=>∃k:Nat,k<=ns.length/\i=.int .i64 k/\Bl w wr) (λi _=>ns.length-(RowKit.intOf i).toNat)
 case atStart=>exact⟨0,y_,rfl,r_⟩
 case round=>
  obtain⟨k,hk,rfl,hB⟩:=hrel;by_cases hlt:k<ns.length
  ·obtain⟨b1,o1,rfl,hx1⟩:=H1 o_;obtain⟨b2,o2,rfl,hx2⟩:=H2 o_;obtain⟨d0,d1⟩:=(hx1.below hB) k hlt;obtain⟨e0,e1⟩:=(hx2.below hB) k hlt;have l1:=b_ d0;have l2:=b_ e0;simp only at l1 l2;generalize ns[k]=n at d0 d1 e0 e1;go_wp2_with fail;go_region_held3 (λW=>W.cell? ⟨b1,o1+k*2,none⟩=some (.string n.name)/\W.cell? ⟨b1,o1+k*2+1,none⟩=some (.int .i64 n.size)/\W.cell? ⟨b2,o2+k*2,none⟩=some (.string n.name)/\W.cell? ⟨b2,o2+k*2+1,none⟩=some (.int .i64 n.size)) (go_simp)
    (first
    | (go_at_call 71;refine (eqGlob_any n _).mono ?_;rintro e w2 ⟨rfl,hb2⟩;have hcc : ∀b o,b<wr.heap.size->w2.cell? ⟨b,o,none⟩=wr.cell? ⟨b,o,none⟩:=(bcell hb2).1))
   have hB2:=hB.trans (((r_.drew).trans hb2).mono hB.size);go_wp2_with fail;go_roundw
   case rel=>exact⟨k+1,by omega,by go_num,hB2⟩
   case measure=>simp[RowKit.intOf];omega
  ·go_wp2;go_ret;exact⟨rfl,hB⟩
theorem eqStrs_any (v1 v2:Value) (ns:List ByteArray) (w:World) (hl:ns.length<=1048576) (h1:Strs w v1 ns) (h2:Strs w v2 ns) :
  Calls prog 111 #[v1,v2] w λe w'=>e=.returned (.bool true)/\Below w.heap.size w w':=by
 obtain⟨a1,c1,rfl,-,-,hc1⟩:=h1;obtain⟨a2,c2,rfl,-,-,hc2⟩:=h2;obtain⟨H1,H2⟩:=h2 hc1 hc2;go_enter func111,ntmps111;go_wp2_with fail;go_loopw [5] (λi wr=>∃k:Nat,k<=ns.length/\i=.int .i64 k/\Bl w wr) (λi _=>ns.length-(RowKit.intOf i).toNat)
 case atStart=>exact⟨0,y_,rfl,r_⟩
 case round=>
  obtain⟨k,hk,rfl,hB⟩:=hrel;by_cases hlt:k<ns.length
  ·obtain⟨b1,o1,rfl,hx1⟩:=H1 o_;obtain⟨b2,o2,rfl,hx2⟩:=H2 o_;have d0:=(hx1.below hB) k hlt;have e0:=(hx2.below hB) k hlt;generalize ns[k]=n at d0 e0;go_wp2_with fail;go_quiet (fail)
   go_wp2_with fail;go_roundw
   case rel=>exact⟨k+1,by omega,by go_num,below_drewN hB _⟩
   case measure=>simp[RowKit.intOf];omega
  ·go_wp2;go_ret;exact⟨rfl,hB⟩
theorem box66 {a3 a4 a5 b3 b4 b5:Value} (h:Below (w.heap.size+1+1) ((w.alloc (.cells #[a0,a1,a2,a3,a4,a5] t)).alloc (.cells #[b0,b1,b2,b3,b4,b5] u)) w') :
  (w'.cell? ⟨w.heap.size,0,none⟩=some a0/\w'.cell? ⟨w.heap.size,1,none⟩=some a1/\w'.cell? ⟨w.heap.size,2,none⟩=some a2/\w'.cell? ⟨w.heap.size,3,none⟩=some a3/\w'.cell? ⟨w.heap.size,4,none⟩=some a4/\w'.cell? ⟨w.heap.size,5,none⟩=some a5) /\
  (w'.cell? ⟨w.heap.size+1,0,none⟩=some b0/\w'.cell? ⟨w.heap.size+1,1,none⟩=some b1/\w'.cell? ⟨w.heap.size+1,2,none⟩=some b2/\w'.cell? ⟨w.heap.size+1,3,none⟩=some b3/\w'.cell? ⟨w.heap.size+1,4,none⟩=some b4/\w'.cell? ⟨w.heap.size+1,5,none⟩=some b5):=by
 refine⟨⟨?_,?_,?_,?_,?_,?_⟩,⟨?_,?_,?_,?_,?_,?_⟩⟩;all_goals (rw[h.cell (by first|(simp;done)|(simp;omega))];go_simp;done)
theorem box33 (h:Below (w.heap.size+1+1) ((w.alloc (.cells #[a0,a1,a2] t)).alloc (.cells #[b0,b1,b2] u)) w') :
  (w'.cell? ⟨w.heap.size,0,none⟩=some a0/\w'.cell? ⟨w.heap.size,1,none⟩=some a1/\w'.cell? ⟨w.heap.size,2,none⟩=some a2) /\
  (w'.cell? ⟨w.heap.size+1,0,none⟩=some b0/\w'.cell? ⟨w.heap.size+1,1,none⟩=some b1/\w'.cell? ⟨w.heap.size+1,2,none⟩=some b2):=by
 refine⟨⟨?_,?_,?_⟩,⟨?_,?_,?_⟩⟩;all_goals (rw[h.cell (by first|(simp;done)|(simp;omega))];go_simp;done)
theorem box22 (h:Below (w.heap.size+1+1) ((w.alloc (.cells #[a0,a1] t)).alloc (.cells #[b0,b1] u)) w') :
  (w'.cell? ⟨w.heap.size,0,none⟩=some a0/\w'.cell? ⟨w.heap.size,1,none⟩=some a1) /\
  (w'.cell? ⟨w.heap.size+1,0,none⟩=some b0/\w'.cell? ⟨w.heap.size+1,1,none⟩=some b1):=by
 refine⟨⟨?_,?_⟩,⟨?_,?_⟩⟩;all_goals (rw[h.cell (by first|(simp;done)|(simp;omega))];go_simp;done)
theorem eqStmt_any (s:St) (x1 y1 x2 y2:Value) (w:World) (hs:smallS s) (h1:Nodes w x1 s.e) (h2:Nodes w y1 s.f) (h3:Nodes w x2 s.e) (h4:Nodes w y2 s.f) :
  Calls prog 148 #[.agg #[.int .i64 s.kind,.string s.name,x1,y1,.int .i64 s.thn,.int .i64 s.els],.agg #[.int .i64 s.kind,.string s.name,x2,y2,.int .i64 s.thn,.int .i64 s.els]] w λe w'=>e=.returned (.bool true)/\Below w.heap.size w w':=by
 obtain⟨k,n,es,fs,t,l⟩:=s;have hse:es.length<=1048576:=hs.1;have hsf:fs.length<=1048576:=hs.2;simp only at h1 h2 h3 h4 ⊢;have H1:=hide h1;have H2:=hide h2;have H3:=hide h3;have H4:=hide h4;obtain⟨p1,q1,rfl,-,-,-⟩:=h1;obtain⟨p2,q2,rfl,-,-,-⟩:=h2;obtain⟨p3,q3,rfl,-,-,-⟩:=h3;obtain⟨p4,q4,rfl,-,-,-⟩:=h4;go_enter func148,ntmps148;go_wp2_with fail;have hA:Bl w ((w.alloc (.cells #[.int .i64 k,.string n,.slice p1 es.length q1,.slice p2 fs.length q2,.int .i64 t,.int .i64 l] 132)).alloc (.cells #[.int .i64 k,.string n,.slice p3 es.length q3,.slice p4 fs.length q4,.int .i64 t,.int .i64 l] 132)):=(bel_a _ _).alloc (by simp) _;refine (eqNodes_any _ _ es _ hse (H1.o.below hA) (H3.o.below hA)).mono ?_;rintro e w1 ⟨rfl,hb1⟩;simp only[World.size_alloc] at hb1;obtain⟨⟨a0,a1,a2,a3,a4,a5⟩,b0,b1,b2,b3,b4,b5⟩:=box66 hb1;have hB1:=two_below hb1;go_wp2_with fail;refine (eqNodes_any _ _ fs _ hsf (H2.o.below hB1) (H4.o.below hB1)).mono ?_;rintro e w2 ⟨rfl,hb2⟩;have hb2':=hb1.trans (hb2.mono (by have:=hb1.size;simp at this;omega));have hB2:=two_below hb2';obtain⟨⟨a0,a1,a2,a3,a4,a5⟩,b0,b1,b2,b3,b4,b5⟩:=box66 hb2';go_wp2_with fail;go_ret;exact⟨rfl,hB2⟩
end
theorem eqStmts_any (v1 v2:Value) (ns:List St) (w:World) (hl:ns.length<=1048576) (hsm : ∀s∈ns,smallS s) (h1:Stmts w v1 ns) (h2:Stmts w v2 ns) :
  Calls prog 112 #[v1,v2] w λe w'=>e=.returned (.bool true)/\Below w.heap.size w w':=by
 obtain⟨a1,c1,rfl,-,-,hc1⟩:=h1;obtain⟨a2,c2,rfl,-,-,hc2⟩:=h2;obtain⟨H1,H2,HSM⟩:=h3 hc1 hc2 hsm;go_enter func112,ntmps112;go_wp2_with fail;go_loopw [5] (λi wr=>∃k:Nat,k<=ns.length/\i=.int .i64 k/\Bl w wr) (λi _=>ns.length-(RowKit.intOf i).toNat)
 case atStart=>exact⟨0,y_,rfl,r_⟩
 case round=>
  obtain⟨k,hk,rfl,hB⟩:=hrel;by_cases hlt:k<ns.length
  ·obtain⟨b1,o1,rfl,hx1⟩:=H1 o_;obtain⟨b2,o2,rfl,hx2⟩:=H2 o_;obtain⟨x1,y1,⟨d0,d1,d2,d3,d4,d5⟩,g1,g2⟩:=(hx1.below hB) k hlt;obtain⟨x2,y2,⟨e0,e1,e2,e3,e4,e5⟩,g3,g4⟩:=(hx2.below hB) k hlt;have l1:=b_ d0;have l2:=b_ e0;simp only at l1 l2;have HS1:Hid (smallS ns[k]):=HSM ns[k] (g_ hlt);generalize ns[k]=n at d0 d1 d2 d3 d4 d5 e0 e1 e2 e3 e4 e5 g1 g2 g3 g4 HS1;obtain⟨HA,HB,HC,HD⟩:=h4 g1 g2 g3 g4;obtain⟨p1,q1,rfl,-,-,-⟩:=g1;obtain⟨p2,q2,rfl,-,-,-⟩:=g2;obtain⟨p3,q3,rfl,-,-,-⟩:=g3;obtain⟨p4,q4,rfl,-,-,-⟩:=g4;have hdr:Bl wr wr.drew:=r_.drew;go_wp2_with fail;go_region_held3 (λW=>W.cell? ⟨b1,o1+k*6,none⟩=some (.int .i64 n.kind)/\W.cell? ⟨b1,o1+k*6+1,none⟩=some (.string n.name)/\W.cell? ⟨b1,o1+k*6+2,none⟩=some (.slice p1 n.e.length q1)/\W.cell? ⟨b1,o1+k*6+3,none⟩=some (.slice p2 n.f.length q2)/\W.cell? ⟨b1,o1+k*6+4,none⟩=some (.int .i64 n.thn)/\W.cell? ⟨b1,o1+k*6+5,none⟩=some (.int .i64 n.els)/\W.cell? ⟨b2,o2+k*6,none⟩=some (.int .i64 n.kind)/\W.cell? ⟨b2,o2+k*6+1,none⟩=some (.string n.name)/\W.cell? ⟨b2,o2+k*6+2,none⟩=some (.slice p3 n.e.length q3)/\W.cell? ⟨b2,o2+k*6+3,none⟩=some (.slice p4 n.f.length q4)/\W.cell? ⟨b2,o2+k*6+4,none⟩=some (.int .i64 n.thn)/\W.cell? ⟨b2,o2+k*6+5,none⟩=some (.int .i64 n.els)) (go_simp)
    (first
    | (go_at_call 148;refine (eqStmt_any n _ _ _ _ _ HS1 (HA.o.below hdr) (HB.o.below hdr) (HC.o.below hdr) (HD.o.below hdr)).mono ?_;rintro e w2 ⟨rfl,hb2⟩;have hcc : ∀b o,b<wr.heap.size->w2.cell? ⟨b,o,none⟩=wr.cell? ⟨b,o,none⟩:=(bcell hb2).1))
   have hB2:=hB.trans (((r_.drew).trans hb2).mono hB.size);go_wp2_with fail;go_roundw
   case rel=>exact⟨k+1,by omega,by go_num,hB2⟩
   case measure=>simp[RowKit.intOf];omega
  ·go_wp2;go_ret;exact⟨rfl,hB⟩
theorem eqFunc_any (s:Fu) (x1 y1 x2 y2:Value) (w:World) (hs:smallF s) (h1:Strs w x1 s.params) (h2:Stmts w y1 s.body) (h3:Strs w x2 s.params) (h4:Stmts w y2 s.body) :
  Calls prog 72 #[.agg #[.string s.name,x1,y1],.agg #[.string s.name,x2,y2]] w λe w'=>e=.returned (.bool true)/\Below w.heap.size w w':=by
 obtain⟨n,es,fs⟩:=s;have hse:es.length<=1048576:=hs.1;have hsf:fs.length<=1048576:=hs.2.1;have HSM:Hid (∀s∈fs,smallS s):=hs.2.2;simp only at h1 h2 h3 h4 ⊢;have H1:=hide h1;have H2:=hide h2;have H3:=hide h3;have H4:=hide h4;obtain⟨p1,q1,rfl,-,-,-⟩:=h1;obtain⟨p2,q2,rfl,-,-,-⟩:=h2;obtain⟨p3,q3,rfl,-,-,-⟩:=h3;obtain⟨p4,q4,rfl,-,-,-⟩:=h4;go_enter func72,ntmps72;go_wp2_with fail;have hA:Bl w ((w.alloc (.cells #[.string n,.slice p1 es.length q1,.slice p2 fs.length q2] 97)).alloc (.cells #[.string n,.slice p3 es.length q3,.slice p4 fs.length q4] 97)):=(bel_a _ _).alloc (by simp) _;refine (eqStrs_any _ _ es _ hse (H1.o.below hA) (H3.o.below hA)).mono ?_;rintro e w1 ⟨rfl,hb1⟩;simp only[World.size_alloc] at hb1;obtain⟨⟨a0,a1,a2⟩,b0,b1,b2⟩:=box33 hb1;have hB1:=two_below hb1;go_wp2_with fail;refine (eqStmts_any _ _ fs _ hsf HSM (H2.o.below hB1) (H4.o.below hB1)).mono ?_;rintro e w2 ⟨rfl,hb2⟩;have hB2:=hB1.trans (hb2.mono hB1.size);go_wp2_with fail;go_ret;exact⟨rfl,hB2⟩
theorem eqFuncs_any (v1 v2:Value) (ns:List Fu) (w:World) (hl:ns.length<=1048576) (hsm : ∀s∈ns,smallF s) (h1:Funcs w v1 ns) (h2:Funcs w v2 ns) :
  Calls prog 42 #[v1,v2] w λe w'=>e=.returned (.bool true)/\Below w.heap.size w w':=by
 obtain⟨a1,c1,rfl,-,-,hc1⟩:=h1;obtain⟨a2,c2,rfl,-,-,hc2⟩:=h2;obtain⟨H1,H2,HSM⟩:=h3 hc1 hc2 hsm;go_enter func42,ntmps42;go_wp2_with fail;go_loopw [5] (λi wr=>∃k:Nat,k<=ns.length/\i=.int .i64 k/\Bl w wr) (λi _=>ns.length-(RowKit.intOf i).toNat)
 case atStart=>exact⟨0,y_,rfl,r_⟩
 case round=>
  obtain⟨k,hk,rfl,hB⟩:=hrel;by_cases hlt:k<ns.length
  ·obtain⟨b1,o1,rfl,hx1⟩:=H1 o_;obtain⟨b2,o2,rfl,hx2⟩:=H2 o_;obtain⟨x1,y1,⟨d0,d1,d2⟩,g1,g2⟩:=(hx1.below hB) k hlt;obtain⟨x2,y2,⟨e0,e1,e2⟩,g3,g4⟩:=(hx2.below hB) k hlt;have l1:=b_ d0;have l2:=b_ e0;simp only at l1 l2;have HS1:Hid (smallF ns[k]):=HSM ns[k] (g_ hlt);generalize ns[k]=n at d0 d1 d2 e0 e1 e2 g1 g2 g3 g4 HS1;obtain⟨HA,HB,HC,HD⟩:=h4 g1 g2 g3 g4;obtain⟨p1,q1,rfl,-,-,-⟩:=g1;obtain⟨p2,q2,rfl,-,-,-⟩:=g2;obtain⟨p3,q3,rfl,-,-,-⟩:=g3;obtain⟨p4,q4,rfl,-,-,-⟩:=g4;have hdr:Bl wr wr.drew:=r_.drew;go_wp2_with fail;go_region_held3 (λW=>W.cell? ⟨b1,o1+k*3,none⟩=some (.string n.name)/\W.cell? ⟨b1,o1+k*3+1,none⟩=some (.slice p1 n.params.length q1)/\W.cell? ⟨b1,o1+k*3+2,none⟩=some (.slice p2 n.body.length q2)/\W.cell? ⟨b2,o2+k*3,none⟩=some (.string n.name)/\W.cell? ⟨b2,o2+k*3+1,none⟩=some (.slice p3 n.params.length q3)/\W.cell? ⟨b2,o2+k*3+2,none⟩=some (.slice p4 n.body.length q4)) (go_simp)
    (first
    | (go_at_call 72;refine (eqFunc_any n _ _ _ _ _ HS1 (HA.o.below hdr) (HB.o.below hdr) (HC.o.below hdr) (HD.o.below hdr)).mono ?_;rintro e w2 ⟨rfl,hb2⟩;have hcc : ∀b o,b<wr.heap.size->w2.cell? ⟨b,o,none⟩=wr.cell? ⟨b,o,none⟩:=(bcell hb2).1))
   have hB2:=hB.trans (((r_.drew).trans hb2).mono hB.size);go_wp2_with fail;go_roundw
   case rel=>exact⟨k+1,by omega,by go_num,hB2⟩
   case measure=>simp[RowKit.intOf];omega
  ·go_wp2;go_ret;exact⟨rfl,hB⟩
theorem eqTree_any (t:Tr) (x1 y1 x2 y2:Value) (w:World) (hs:smallT t) (h1:Globs w x1 t.globals) (h2:Funcs w y1 t.funcs) (h3:Globs w x2 t.globals) (h4:Funcs w y2 t.funcs) :
  Calls prog 12 #[.agg #[x1,y1],.agg #[x2,y2]] w λe w'=>e=.returned (.bool true)/\Below w.heap.size w w':=by
 obtain⟨es,fs⟩:=t;have hse:es.length<=1048576:=hs.1;have hsf:fs.length<=1048576:=hs.2.1;have HSM:Hid (∀s∈fs,smallF s):=hs.2.2;simp only at h1 h2 h3 h4 ⊢;have H1:=hide h1;have H2:=hide h2;have H3:=hide h3;have H4:=hide h4;obtain⟨p1,q1,rfl,-,-,-⟩:=h1;obtain⟨p2,q2,rfl,-,-,-⟩:=h2;obtain⟨p3,q3,rfl,-,-,-⟩:=h3;obtain⟨p4,q4,rfl,-,-,-⟩:=h4;go_enter func12,ntmps12;go_wp2_with fail;have hA:Bl w ((w.alloc (.cells #[.slice p1 es.length q1,.slice p2 fs.length q2] 34)).alloc (.cells #[.slice p3 es.length q3,.slice p4 fs.length q4] 34)):=(bel_a _ _).alloc (by simp) _;refine (eqGlobs_any _ _ es _ hse (H1.o.below hA) (H3.o.below hA)).mono ?_;rintro e w1 ⟨rfl,hb1⟩;simp only[World.size_alloc] at hb1;obtain⟨⟨a0,a1⟩,b0,b1⟩:=box22 hb1;have hB1:=two_below hb1;go_wp2_with fail;refine (eqFuncs_any _ _ fs _ hsf HSM (H2.o.below hB1) (H4.o.below hB1)).mono ?_;rintro e w2 ⟨rfl,hb2⟩;have hB2:=hB1.trans (hb2.mono hB1.size);go_wp2_with fail;go_ret;exact⟨rfl,hB2⟩
end Go.Proofs.YtffnkkpmlplfeaaGreatDoor
