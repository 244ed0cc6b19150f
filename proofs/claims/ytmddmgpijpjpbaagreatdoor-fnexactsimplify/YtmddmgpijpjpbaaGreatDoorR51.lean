import Derived.Test.YtmddmgpijpjpbaaGreatDoorR50
import Derived.Deep.RegionHeld3
import Derived.Deep.CutRange
set_option linter.unusedSectionVars false
variable [Inhabited Go.Proofs.YtmddmgpijpjpbaaGreatDoor.Pick]
namespace Go.Proofs.YtmddmgpijpjpbaaGreatDoor
open Go.RowKit
set_option linter.unusedVariables false
set_option linter.unusedSimpArgs false
set_option maxRecDepth 100000
set_option maxHeartbeats 16000000
theorem eqStmts_any (v1 v2:Value) (ns:List St) (w:World) (hl:ns.length<=1048576) (hsm : ∀s∈ns,smallS s) (h1:Stmts w v1 ns) (h2:Stmts w v2 ns) :
  Calls Tryz.prog 102 #[v1,v2] w fun e w'=>e = .returned (.bool true)/\Below w.heap.size w w':=by
 obtain ⟨a1,c1,rfl,-,-,hc1⟩:=h1
 obtain ⟨a2,c2,rfl,-,-,hc2⟩:=h2
 have H1:=hide hc1
 have H2:=hide hc2
 have HSM:=hide hsm
 go_enter Tryz.func102,Tryz.ntmps102
 go_wp2_with fail
 go_loopw [5] (fun i wr=>∃k:Nat,k<=ns.length/\i = .int .i64 k/\Bl w wr) (fun i _=>ns.length-(intOf i).toNat)
 case atStart=>exact ⟨0,Nat.zero_le _,rfl,Below.refl _ _⟩
 case round=>
  obtain ⟨k,hk,rfl,hB⟩:=hrel
  by_cases hlt:k<ns.length
  ·obtain ⟨b1,o1,rfl,hx1⟩:=H1.out (by omega)
   obtain ⟨b2,o2,rfl,hx2⟩:=H2.out (by omega)
   obtain ⟨x1,y1,⟨d0,d1,d2,d3,d4,d5⟩,g1,g2⟩:=(hx1.below hB) k hlt
   obtain ⟨x2,y2,⟨e0,e1,e2,e3,e4,e5⟩,g3,g4⟩:=(hx2.below hB) k hlt
   have l1:=World.block_lt_of_cell? _ _ d0
   have l2:=World.block_lt_of_cell? _ _ e0
   simp only at l1 l2
   have HS1:Hid (smallS ns[k]):=HSM.out ns[k] (List.getElem_mem hlt)
   generalize ns[k]=n at d0 d1 d2 d3 d4 d5 e0 e1 e2 e3 e4 e5 g1 g2 g3 g4 HS1
   have HA:=hide g1
   have HB:=hide g2
   have HC:=hide g3
   have HD:=hide g4
   obtain ⟨p1,q1,rfl,-,-,-⟩:=g1
   obtain ⟨p2,q2,rfl,-,-,-⟩:=g2
   obtain ⟨p3,q3,rfl,-,-,-⟩:=g3
   obtain ⟨p4,q4,rfl,-,-,-⟩:=g4
   have hdr:Bl wr wr.drew:=(Below.refl _ _).drew
   go_wp2_with fail
   go_region_held3 (fun W=>W.cell? ⟨b1,o1+k*6,none⟩=some (.int .i64 n.kind)/\W.cell? ⟨b1,o1+k*6+1,none⟩=some (.string n.name)/\W.cell? ⟨b1,o1+k*6+2,none⟩=some (.slice p1 n.e.length q1)/\W.cell? ⟨b1,o1+k*6+3,none⟩=some (.slice p2 n.f.length q2)/\W.cell? ⟨b1,o1+k*6+4,none⟩=some (.int .i64 n.thn)/\W.cell? ⟨b1,o1+k*6+5,none⟩=some (.int .i64 n.els)/\W.cell? ⟨b2,o2+k*6,none⟩=some (.int .i64 n.kind)/\W.cell? ⟨b2,o2+k*6+1,none⟩=some (.string n.name)/\W.cell? ⟨b2,o2+k*6+2,none⟩=some (.slice p3 n.e.length q3)/\W.cell? ⟨b2,o2+k*6+3,none⟩=some (.slice p4 n.f.length q4)/\W.cell? ⟨b2,o2+k*6+4,none⟩=some (.int .i64 n.thn)/\W.cell? ⟨b2,o2+k*6+5,none⟩=some (.int .i64 n.els)) (go_simp)
    (first
    | (go_at_call 141;refine (eqStmt_any n _ _ _ _ _ HS1.out (HA.out.below hdr) (HB.out.below hdr) (HC.out.below hdr) (HD.out.below hdr)).mono ?_;rintro e w2 ⟨rfl,hb2⟩;have hcc : ∀b o,b<wr.heap.size->w2.cell? ⟨b,o,none⟩=wr.cell? ⟨b,o,none⟩:=(bcell hb2).1))
   have hB2:=hB.trans ((((Below.refl _ _).drew).trans hb2).mono hB.size)
   go_wp2_with fail
   go_roundw
   case rel=>exact ⟨k+1,by omega,by go_num,hB2⟩
   case measure=>simp [intOf];omega
  ·go_wp2_with fail
   go_ret
   exact ⟨rfl,hB⟩
theorem eqFunc_any (s:Fu) (x1 y1 x2 y2:Value) (w:World) (hs:smallF s) (h1:Strs w x1 s.params) (h2:Stmts w y1 s.body) (h3:Strs w x2 s.params) (h4:Stmts w y2 s.body) :
  Calls Tryz.prog 63 #[.agg #[.string s.name,x1,y1],.agg #[.string s.name,x2,y2]] w fun e w'=>e = .returned (.bool true)/\Below w.heap.size w w':=by
 obtain ⟨n,es,fs⟩:=s
 have hse:es.length<=1048576:=hs.1
 have hsf:fs.length<=1048576:=hs.2.1
 have HSM:Hid (∀s∈fs,smallS s):=hs.2.2
 simp only at h1 h2 h3 h4 ⊢
 have H1:=hide h1
 have H2:=hide h2
 have H3:=hide h3
 have H4:=hide h4
 obtain ⟨p1,q1,rfl,-,-,-⟩:=h1
 obtain ⟨p2,q2,rfl,-,-,-⟩:=h2
 obtain ⟨p3,q3,rfl,-,-,-⟩:=h3
 obtain ⟨p4,q4,rfl,-,-,-⟩:=h4
 go_enter Tryz.func63,Tryz.ntmps63
 go_wp2_with fail
 have hA:Bl w ((w.alloc (.cells #[.string n,.slice p1 es.length q1,.slice p2 fs.length q2] 85)).alloc (.cells #[.string n,.slice p3 es.length q3,.slice p4 fs.length q4] 85)):=(bel_a _ _).alloc (by simp) _
 refine (eqStrs_any _ _ es _ hse (H1.out.below hA) (H3.out.below hA)).mono ?_
 rintro e w1 ⟨rfl,hb1⟩
 simp only [World.size_alloc] at hb1
 obtain ⟨⟨a0,a1,a2⟩,b0,b1,b2⟩:=box33 hb1
 have hB1:=two_below hb1
 go_wp2_with fail
 refine (eqStmts_any _ _ fs _ hsf HSM.out (H2.out.below hB1) (H4.out.below hB1)).mono ?_
 rintro e w2 ⟨rfl,hb2⟩
 have hB2:=hB1.trans (hb2.mono hB1.size)
 go_wp2_with fail
 go_ret
 exact ⟨rfl,hB2⟩
theorem eqFuncs_any (v1 v2:Value) (ns:List Fu) (w:World) (hl:ns.length<=1048576) (hsm : ∀s∈ns,smallF s) (h1:Funcs w v1 ns) (h2:Funcs w v2 ns) :
  Calls Tryz.prog 36 #[v1,v2] w fun e w'=>e = .returned (.bool true)/\Below w.heap.size w w':=by
 obtain ⟨a1,c1,rfl,-,-,hc1⟩:=h1
 obtain ⟨a2,c2,rfl,-,-,hc2⟩:=h2
 have H1:=hide hc1
 have H2:=hide hc2
 have HSM:=hide hsm
 go_enter Tryz.func36,Tryz.ntmps36
 go_wp2_with fail
 go_loopw [5] (fun i wr=>∃k:Nat,k<=ns.length/\i = .int .i64 k/\Bl w wr) (fun i _=>ns.length-(intOf i).toNat)
 case atStart=>exact ⟨0,Nat.zero_le _,rfl,Below.refl _ _⟩
 case round=>
  obtain ⟨k,hk,rfl,hB⟩:=hrel
  by_cases hlt:k<ns.length
  ·obtain ⟨b1,o1,rfl,hx1⟩:=H1.out (by omega)
   obtain ⟨b2,o2,rfl,hx2⟩:=H2.out (by omega)
   obtain ⟨x1,y1,⟨d0,d1,d2⟩,g1,g2⟩:=(hx1.below hB) k hlt
   obtain ⟨x2,y2,⟨e0,e1,e2⟩,g3,g4⟩:=(hx2.below hB) k hlt
   have l1:=World.block_lt_of_cell? _ _ d0
   have l2:=World.block_lt_of_cell? _ _ e0
   simp only at l1 l2
   have HS1:Hid (smallF ns[k]):=HSM.out ns[k] (List.getElem_mem hlt)
   generalize ns[k]=n at d0 d1 d2 e0 e1 e2 g1 g2 g3 g4 HS1
   have HA:=hide g1
   have HB:=hide g2
   have HC:=hide g3
   have HD:=hide g4
   obtain ⟨p1,q1,rfl,-,-,-⟩:=g1
   obtain ⟨p2,q2,rfl,-,-,-⟩:=g2
   obtain ⟨p3,q3,rfl,-,-,-⟩:=g3
   obtain ⟨p4,q4,rfl,-,-,-⟩:=g4
   have hdr:Bl wr wr.drew:=(Below.refl _ _).drew
   go_wp2_with fail
   go_region_held3 (fun W=>W.cell? ⟨b1,o1+k*3,none⟩=some (.string n.name)/\W.cell? ⟨b1,o1+k*3+1,none⟩=some (.slice p1 n.params.length q1)/\W.cell? ⟨b1,o1+k*3+2,none⟩=some (.slice p2 n.body.length q2)/\W.cell? ⟨b2,o2+k*3,none⟩=some (.string n.name)/\W.cell? ⟨b2,o2+k*3+1,none⟩=some (.slice p3 n.params.length q3)/\W.cell? ⟨b2,o2+k*3+2,none⟩=some (.slice p4 n.body.length q4)) (go_simp)
    (first
    | (go_at_call 63;refine (eqFunc_any n _ _ _ _ _ HS1.out (HA.out.below hdr) (HB.out.below hdr) (HC.out.below hdr) (HD.out.below hdr)).mono ?_;rintro e w2 ⟨rfl,hb2⟩;have hcc : ∀b o,b<wr.heap.size->w2.cell? ⟨b,o,none⟩=wr.cell? ⟨b,o,none⟩:=(bcell hb2).1))
   have hB2:=hB.trans ((((Below.refl _ _).drew).trans hb2).mono hB.size)
   go_wp2_with fail
   go_roundw
   case rel=>exact ⟨k+1,by omega,by go_num,hB2⟩
   case measure=>simp [intOf];omega
  ·go_wp2_with fail
   go_ret
   exact ⟨rfl,hB⟩
theorem eqTree_any (t:Tr) (x1 y1 x2 y2:Value) (w:World) (hs:smallT t) (h1:Globs w x1 t.globals) (h2:Funcs w y1 t.funcs) (h3:Globs w x2 t.globals) (h4:Funcs w y2 t.funcs) :
  Calls Tryz.prog 11 #[.agg #[x1,y1],.agg #[x2,y2]] w fun e w'=>e = .returned (.bool true)/\Below w.heap.size w w':=by
 obtain ⟨es,fs⟩:=t
 have hse:es.length<=1048576:=hs.1
 have hsf:fs.length<=1048576:=hs.2.1
 have HSM:Hid (∀s∈fs,smallF s):=hs.2.2
 simp only at h1 h2 h3 h4 ⊢
 have H1:=hide h1
 have H2:=hide h2
 have H3:=hide h3
 have H4:=hide h4
 obtain ⟨p1,q1,rfl,-,-,-⟩:=h1
 obtain ⟨p2,q2,rfl,-,-,-⟩:=h2
 obtain ⟨p3,q3,rfl,-,-,-⟩:=h3
 obtain ⟨p4,q4,rfl,-,-,-⟩:=h4
 go_enter Tryz.func11,Tryz.ntmps11
 go_wp2_with fail
 have hA:Bl w ((w.alloc (.cells #[.slice p1 es.length q1,.slice p2 fs.length q2] 34)).alloc (.cells #[.slice p3 es.length q3,.slice p4 fs.length q4] 34)):=(bel_a _ _).alloc (by simp) _
 refine (eqGlobs_any _ _ es _ hse (H1.out.below hA) (H3.out.below hA)).mono ?_
 rintro e w1 ⟨rfl,hb1⟩
 simp only [World.size_alloc] at hb1
 obtain ⟨⟨a0,a1⟩,b0,b1⟩:=box22 hb1
 have hB1:=two_below hb1
 go_wp2_with fail
 refine (eqFuncs_any _ _ fs _ hsf HSM.out (H2.out.below hB1) (H4.out.below hB1)).mono ?_
 rintro e w2 ⟨rfl,hb2⟩
 have hB2:=hB1.trans (hb2.mono hB1.size)
 go_wp2_with fail
 go_ret
 exact ⟨rfl,hB2⟩
theorem heldNo_any (v:Value) (ns:List Nd) (q:Nat) (w:World) (hn:ns.length<=1048576) (h0:0<q) (hq:(q:Int)+3*ns.length<=1000000000) (h:Nodes w v (mkN q ns)) :
  Calls Tryz.prog 115 #[v,.int .i64 q] w fun e w'=>e = .returned (.int .i64 ((q+3*ns.length:Nat):Int))/\Below w.heap.size w w':=by
 obtain ⟨a,cap,rfl,-,-,hc⟩:=h
 rw [mkN_len] at *
 have H:=hide hc
 clear hc
 go_enter Tryz.func115,Tryz.ntmps115
 go_wp2_with fail
 go_loopw [1,5] (fun kk i wr=>∃k:Nat,k<=ns.length/\i = .int .i64 k/\kk = .int .i64 ((q+3*k:Nat):Int)/\Bl w wr) (fun _ i _=>ns.length-(intOf i).toNat)
 case atStart=>exact ⟨0,Nat.zero_le _,rfl,rfl,Below.refl _ _⟩
 case round=>
  obtain ⟨k,hk,rfl,rfl,hB⟩:=hrel
  by_cases hlt:k<ns.length
  ·obtain ⟨b,off,rfl,hcc⟩:=H.out (by omega)
   obtain ⟨c0,c1,c2⟩:=(hcc.below hB) k (by rw [mkN_len];exact hlt)
   rw [mkN_get] at c0 c1 c2
   obtain ⟨z,hz⟩ : ∃z:Nat,z=q+3*k:=⟨_,rfl⟩
   have HZ:=hide hz
   simp only at c0 c1 c2
   rw [<-hz] at c0 c1 c2 ⊢
   have hz0:0<z:=by omega
   have hz1:(z:Int)+3<=1000000000:=by omega
   have e1:((z+1:Nat):Int)=(z:Int)+1:=by omega
   rw [e1] at c1
   clear hz e1 hcc
   go_wp2_with fail
   rw [show ((z:Int)+1+1)=((z+2:Nat):Int) by omega]
   have hl:=World.block_lt_of_cell? _ _ c2
   simp only at hl
   clear c0 c1
   have hm0:(((z+2:Nat):Nat):Int)<=1000000000:=by omega
   have hm1:0<z+2:=by omega
   go_region_held3 (fun W=>W.cell? ⟨b,off+k*3+2,none⟩=some (.string (mtxt (z+2)))) (go_simp)
    (first
    | (go_at_call 64;refine (mtext_any (z+2) hm0 hm1 _).mono ?_;rintro e w2 ⟨rfl,hb2⟩;have hcc : ∀b o,b<wr.heap.size->w2.cell? ⟨b,o,none⟩=wr.cell? ⟨b,o,none⟩:=(bcell hb2).1))
   have hB2:=hB.trans ((((Below.refl _ _).drew).trans hb2).mono hB.size)
   go_wp2_with fail
   go_roundw
   case rel=>exact ⟨k+1,by omega,by go_num,by rw [HZ.out];go_num,hB2⟩
   case measure=>simp [intOf];omega
  ·obtain rfl:k=ns.length:=by omega
   go_wp2_with fail
   go_ret
   exact ⟨rfl,hB⟩
theorem heldPo_any (v:Value) (ns:List ByteArray) (q:Nat) (w:World) (hn:ns.length<=1048576) (h0:0<q) (hq:(q:Int)+1*ns.length<=1000000000) (h:Strs w v (mkP q ns)) :
  Calls Tryz.prog 77 #[v,.int .i64 q] w fun e w'=>e = .returned (.int .i64 ((q+1*ns.length:Nat):Int))/\Below w.heap.size w w':=by
 obtain ⟨a,cap,rfl,-,-,hc⟩:=h
 rw [mkP_len] at *
 have H:=hide hc
 clear hc
 go_enter Tryz.func77,Tryz.ntmps77
 go_wp2_with fail
 go_loopw [1,5] (fun kk i wr=>∃k:Nat,k<=ns.length/\i = .int .i64 k/\kk = .int .i64 ((q+1*k:Nat):Int)/\Bl w wr) (fun _ i _=>ns.length-(intOf i).toNat)
 case atStart=>exact ⟨0,Nat.zero_le _,rfl,rfl,Below.refl _ _⟩
 case round=>
  obtain ⟨k,hk,rfl,rfl,hB⟩:=hrel
  by_cases hlt:k<ns.length
  ·obtain ⟨b,off,rfl,hcc⟩:=H.out (by omega)
   have c2:=(hcc.below hB) k (by rw [mkP_len];exact hlt)
   rw [mkP_get] at c2
   obtain ⟨z,hz⟩ : ∃z:Nat,z=q+1*k:=⟨_,rfl⟩
   have HZ:=hide hz
   rw [show q+k=z by omega] at c2
   rw [<-hz]
   have hz0:0<z:=by omega
   have hz1:(z:Int)+1<=1000000000:=by omega
   clear hz hcc
   have hl:=World.block_lt_of_cell? _ _ c2
   simp only at hl
   have hm0:(z:Int)<=1000000000:=by omega
   go_wp2_with fail
   go_region_held3 (fun W=>W.cell? ⟨b,off+k,none⟩=some (.string (mtxt z))) (go_simp)
    (first
    | (go_at_call 64;refine (mtext_any z hm0 hz0 _).mono ?_;rintro e w2 ⟨rfl,hb2⟩;have hcc : ∀b o,b<wr.heap.size->w2.cell? ⟨b,o,none⟩=wr.cell? ⟨b,o,none⟩:=(bcell hb2).1))
   have hB2:=hB.trans ((((Below.refl _ _).drew).trans hb2).mono hB.size)
   go_wp2_with fail
   go_roundw
   case rel=>exact ⟨k+1,by omega,by go_num,by rw [HZ.out];go_num,hB2⟩
   case measure=>simp [intOf];omega
  ·obtain rfl:k=ns.length:=by omega
   go_wp2_with fail
   go_ret
   exact ⟨rfl,hB⟩
theorem heldGo_any (v:Value) (ns:List Gl) (q:Nat) (w:World) (hn:ns.length<=1048576) (h0:0<q) (hq:(q:Int)+2*ns.length<=1000000000) (h:Globs w v (mkG q ns)) :
  Calls Tryz.prog 46 #[v,.int .i64 q] w fun e w'=>e = .returned (.int .i64 ((q+2*ns.length:Nat):Int))/\Below w.heap.size w w':=by
 obtain ⟨a,cap,rfl,-,-,hc⟩:=h
 rw [mkG_len] at *
 have H:=hide hc
 clear hc
 go_enter Tryz.func46,Tryz.ntmps46
 go_wp2_with fail
 go_loopw [1,5] (fun kk i wr=>∃k:Nat,k<=ns.length/\i = .int .i64 k/\kk = .int .i64 ((q+2*k:Nat):Int)/\Bl w wr) (fun _ i _=>ns.length-(intOf i).toNat)
 case atStart=>exact ⟨0,Nat.zero_le _,rfl,rfl,Below.refl _ _⟩
 case round=>
  obtain ⟨k,hk,rfl,rfl,hB⟩:=hrel
  by_cases hlt:k<ns.length
  ·obtain ⟨b,off,rfl,hcc⟩:=H.out (by omega)
   obtain ⟨c0,c1⟩:=(hcc.below hB) k (by rw [mkG_len];exact hlt)
   rw [mkG_get] at c0 c1
   obtain ⟨z,hz⟩ : ∃z:Nat,z=q+2*k:=⟨_,rfl⟩
   have HZ:=hide hz
   simp only at c0 c1
   rw [<-hz] at c0 c1 ⊢
   have hz0:0<z:=by omega
   have hz1:(z:Int)+2<=1000000000:=by omega
   have e1:((z+1:Nat):Int)=(z:Int)+1:=by omega
   rw [e1] at c1
   clear hz e1 hcc
   have hl:=World.block_lt_of_cell? _ _ c0
   simp only at hl
   have hm0:(z:Int)<=1000000000:=by omega
   have HC1:=hide c1
   clear c1
   go_wp2_with fail
   go_region_held3 (fun W=>W.cell? ⟨b,off+k*2,none⟩=some (.string (mtxt z))) (go_simp)
    (first
    | (go_at_call 64;refine (mtext_any z hm0 hz0 _).mono ?_;rintro e w2 ⟨rfl,hb2⟩;have hcc : ∀b o,b<wr.heap.size->w2.cell? ⟨b,o,none⟩=wr.cell? ⟨b,o,none⟩:=(bcell hb2).1))
   have hB2:=hB.trans ((((Below.refl _ _).drew).trans hb2).mono hB.size)
   have c1:=(hcc b (off+k*2+1) hl).trans HC1.out
   clear hcc
   go_wp2_with fail
   go_roundw
   case rel=>exact ⟨k+1,by omega,by go_num,by rw [HZ.out];go_num,hB2⟩
   case measure=>simp [intOf];omega
  ·obtain rfl:k=ns.length:=by omega
   go_wp2_with fail
   go_ret
   exact ⟨rfl,hB⟩
theorem heldSo_any (v:Value) (ss:List St) (q:Nat) (w:World) (hn:ss.length<=1048576) (hsm : ∀s∈ss,smallS s) (h0:0<q) (hq:(q:Int)+(sumBy cntS ss:Nat)<=1000000000) (h:Stmts w v (mkS q ss)) :
  Calls Tryz.prog 78 #[v,.int .i64 q] w fun e w'=>e = .returned (.int .i64 ((q+sumBy cntS ss:Nat):Int))/\Below w.heap.size w w':=by
 obtain ⟨a,cap,rfl,-,-,hc⟩:=h
 rw [mkS_len] at *
 have H:=hide hc
 have HSM:=hide hsm
 have HK:=hide hq
 clear hc hsm hq
 go_enter Tryz.func78,Tryz.ntmps78
 go_wp2_with fail
 go_loopw [1,5] (fun kk i wr=>∃k:Nat,k<=ss.length/\i = .int .i64 k/\kk = .int .i64 ((q+sumBy cntS (ss.take k):Nat):Int)/\Bl w wr) (fun _ i _=>ss.length-(intOf i).toNat)
 case atStart=>exact ⟨0,Nat.zero_le _,rfl,by simp [sumBy],Below.refl _ _⟩
 case round=>
  obtain ⟨k,hk,rfl,rfl,hB⟩:=hrel
  by_cases hlt:k<ss.length
  ·obtain ⟨b,off,rfl,hcc⟩:=H.out (by omega)
   obtain ⟨ve,vf,⟨c0,c1,c2,c3,c4,c5⟩,hve,hvf⟩:=(hcc.below hB) k (by rw [mkS_len];exact hlt)
   rw [mkS_get q ss k hlt] at c0 c1 c4 c5 hve hvf
   have hst:=sumBy_step cntS ss k hlt
   have hle:=sumBy_le cntS ss (k+1)
   have hcs:cntS ss[k]=4+3*ss[k].e.length+3*ss[k].f.length:=rfl
   have hKK:=HK.out
   obtain ⟨hse,hsf⟩:=HSM.out ss[k] (List.getElem_mem hlt)
   obtain ⟨z,hz⟩ : ∃z:Nat,q+sumBy cntS (ss.take k)=z:=⟨_,rfl⟩
   have HZ:Hid (q+sumBy cntS (ss.take (k+1))=z+4+3*ss[k].e.length+3*ss[k].f.length):=by show _=_;omega
   rw [hz] at c0 c1 c4 c5 hve hvf ⊢
   have hve':Nodes wr ve (mkN (z+2) ss[k].e):=hve
   have hvf':Nodes wr vf (mkN (z+2+3*ss[k].e.length) ss[k].f):=hvf
   have c0':wr.cell? ⟨b,off+k*6,none⟩=some (.int .i64 (z:Int)):=c0
   have c1':wr.cell? ⟨b,off+k*6+1,none⟩=some (.string (mtxt (z+1))):=c1
   have hzb:(z:Int)+4+3*ss[k].e.length+3*ss[k].f.length<=1000000000:=by omega
   have hz0:0<z:=by omega
   obtain ⟨ne,hne⟩ : ∃ne,ss[k].e.length=ne:=⟨_,rfl⟩
   obtain ⟨nf,hnf⟩ : ∃nf,ss[k].f.length=nf:=⟨_,rfl⟩
   have c4':wr.cell? ⟨b,off+k*6+4,none⟩=some (.int .i64 ((z+2+3*ss[k].e.length+3*ss[k].f.length:Nat):Int)):=c4
   have c5':wr.cell? ⟨b,off+k*6+5,none⟩=some (.int .i64 ((z+3+3*ss[k].e.length+3*ss[k].f.length:Nat):Int)):=c5
   rw [hne,hnf] at c4' c5' HZ hzb
   obtain ⟨y1,hy1⟩ : ∃y1,z+2+3*ne=y1:=⟨_,rfl⟩
   obtain ⟨y2,hy2⟩ : ∃y2,y1+3*nf=y2:=⟨_,rfl⟩
   have HE:Hid (∀W,Bl wr W->Calls Tryz.prog 115 #[ve,.int .i64 ((z+2:Nat):Int)] W fun e w'=>e = .returned (.int .i64 ((y1:Nat):Int))/\Bl W w'):=fun W hW=>by
    have:=heldNo_any ve ss[k].e (z+2) W hse (by omega) (by omega) (hve'.below hW)
    rw [hne,hy1] at this
    exact this
   have HF:Hid (∀W,Bl wr W->Calls Tryz.prog 115 #[vf,.int .i64 ((y1:Nat):Int)] W fun e w'=>e = .returned (.int .i64 ((y2:Nat):Int))/\Bl W w'):=fun W hW=>by
    rw [hne,hy1] at hvf'
    have:=heldNo_any vf ss[k].f y1 W hsf (by omega) (by omega) (hvf'.below hW)
    rw [hnf,hy2] at this
    exact this
   have HC4:Hid (wr.cell? ⟨b,off+k*6+4,none⟩=some (.int .i64 (y2:Int))/\wr.cell? ⟨b,off+k*6+5,none⟩=some (.int .i64 ((y2:Int)+1))):=by
    rw [show z+2+3*ne+3*nf=y2 by omega] at c4'
    rw [show ((z+3+3*ne+3*nf:Nat):Int)=(y2:Int)+1 by omega] at c5'
    exact ⟨c4',c5'⟩
   have HYs:Hid (z+4+3*ne+3*nf=y2+2):=by show _=_;omega
   have hyb:(y2:Int)+2<=1000000000:=by omega
   have hyb1:(y1:Int)<=y2:=by omega
   obtain ⟨ae,ce,rfl,-⟩:=hve'
   obtain ⟨af,cf,rfl,-⟩:=hvf'
   obtain ⟨le,hle'⟩ : ∃le,(mkN (z+2) ss[k].e).length=le:=⟨_,rfl⟩
   obtain ⟨lf,hlf'⟩ : ∃lf,(mkN (z+2+3*ss[k].e.length) ss[k].f).length=lf:=⟨_,rfl⟩
   rw [hle'] at c2 HE
   rw [hlf'] at c3 HF
   have HC2:Hid (wr.cell? ⟨b,off+k*6+2,none⟩=some (.slice ae le ce)/\wr.cell? ⟨b,off+k*6+3,none⟩=some (.slice af lf cf)):=⟨c2,c3⟩
   have hl:=World.block_lt_of_cell? _ _ c0'
   simp only at hl
   have hm0:((z+1:Nat):Int)<=1000000000:=by omega
   have hm1:0<z+1:=by omega
   have i1:(0:Int)<=(k:Int):=by omega
   have i2:(k:Int)<(ss.length:Int):=by omega
   clear c0 c1 c2 c3 c4 c5 c4' c5' hve hvf hst hle hcs hKK hse hsf hz hne hnf hy1 hy2 hle' hlf' hcc
   go_wp2_with fail
   rw [show ((z:Int)+1)=((z+1:Nat):Int) by omega]
   clear c0'
   go_region_held3 (fun W=>W.cell? ⟨b,off+k*6+1,none⟩=some (.string (mtxt (z+1)))) (go_simp)
    (first
    | (go_at_call 64;refine (mtext_any (z+1) hm0 hm1 _).mono ?_;rintro e w2 ⟨rfl,hb2⟩;have hcc : ∀b o,b<wr.heap.size->w2.cell? ⟨b,o,none⟩=wr.cell? ⟨b,o,none⟩:=(bcell hb2).1))
   have hb2':Bl wr w2:=((Below.refl _ _).drew).trans hb2
   have HB2:=hide hb2'
   clear hcc c1' hb2 hb2'
   go_upto_region 10 with fail
   go_cut [1] from 6 to 66 (fun e W=>e = .int .i64 (y1:Int)/\Bl wr W)
   case first=>as_aux_lemma=>
    have d2:=((bcell HB2.out).1 b (off+k*6+2) hl).trans HC2.out.1
    go_wp2_with fail
    rw [show ((z:Int)+1+1)=((z+2:Nat):Int) by omega]
    refine (HE.out w2 HB2.out).mono ?_
    rintro e w3 ⟨rfl,hb3⟩
    have hb3':Bl wr w3:=HB2.out.trans (hb3.mono HB2.out.size)
    go_wp2_with fail
    go_meet
    case rel=>exact ⟨rfl,hb3'⟩
   case rest=>
    obtain ⟨rfl,hb3⟩:=hcut
    have HB3:=hide hb3
    clear hb3
    have d3:=((bcell HB3.out).1 b (off+k*6+3) hl).trans HC2.out.2
    have n1:decide ((y1:Int)<0)=false:=decide_eq_false (by omega)
    go_wp2_with fail
    refine (HF.out wc HB3.out).mono ?_
    rintro e w4 ⟨rfl,hb4⟩
    have hb4':Bl wr w4:=HB3.out.trans (hb4.mono HB3.out.size)
    have d4:=((bcell hb4').1 b (off+k*6+4) hl).trans HC4.out.1
    have d5:=((bcell hb4').1 b (off+k*6+5) hl).trans HC4.out.2
    clear d3 hb4
    have hB2:Bl w w4:=hB.trans (hb4'.mono hB.size)
    have n2:decide ((y2:Int)<0)=false:=decide_eq_false (by omega)
    clear n1
    go_wp2_with fail
    go_roundw
    case rel=>
     refine ⟨k+1,by omega,by go_num,?_,hB2⟩
     rw [HZ.out,HYs.out]
     go_num
    case measure=>simp [intOf];omega
  ·obtain rfl:k=ss.length:=by omega
   go_wp2_with fail
   go_ret
   exact ⟨ret_int' (by rw [List.take_length]),hB⟩
theorem FnM.funcs {B:Nat} {w:World} {v:Value} {Q:List FV} {K:List Nat} (h:FnM B w v Q K):Funcs w v (Q.map (·.f)):=by
 rcases h.row with ⟨h0,-,a,c,rfl,hc⟩ | ⟨g,cap,rfl,-,h3,h4,-,-,h7⟩
 ·exact ⟨a,c,by rw [List.length_map,h0],by rw [List.length_map];omega,hc,fun hp=>by rw [List.length_map] at hp;omega⟩
 ·refine ⟨some ⟨g,0,none⟩,cap,by rw [List.length_map],by rw [List.length_map];exact h3,h4,fun hp=>⟨g,0,rfl,fun j hj => ?_⟩⟩
  rw [List.length_map] at hj
  have key : ∀i (hi:i<3),w.cell? ⟨g,0+j*3+i,none⟩=(cellsF Q[j])[i]? := fun i hi=>by
   have e:=flatF_get Q j i hj hi
   have hl:i<(cellsF Q[j]).length:=hi
   rw [List.getElem?_eq_getElem hl] at e ⊢
   rw [Nat.zero_add]
   exact (h7 _ _ e).1
  have he:=h.each Q[j] (List.getElem_mem hj)
  refine ⟨Q[j].vp,Q[j].vb,?_,?_,?_⟩
  ·simp only [List.getElem_map]
   exact ⟨key 0 (by omega),key 1 (by omega),key 2 (by omega)⟩
  ·simp only [List.getElem_map];exact he.ps.strs
  ·simp only [List.getElem_map];rw [<-he.map];exact he.body.stmts
theorem mkQ_map (k:Nat) (Q:List FV) (h : ∀q∈Q,q.R.map (·.s)=q.f.body):(mkQ k Q).map (·.f)=mkF k (Q.map (·.f))/\sumQ Q=sumBy cntF (Q.map (·.f)):=by
 induction Q generalizing k with
 | nil=>exact ⟨rfl,rfl⟩
 | cons q r ih=>
  have hq:=h q (by simp)
  have e:sumR q.R=sumBy cntS q.f.body:=by rw [sumR,hq]
  have ec:cntF q.f=1+q.f.params.length+sumR q.R:=by rw [e];rfl
  obtain ⟨i1,i2⟩:=ih (k+(1+q.f.params.length+sumR q.R)) (fun x hx=>h x (by simp [hx]))
  refine ⟨?_,?_⟩
  ·simp only [mkQ,List.map_cons,mkF,ec,i1]
   congr 1
   simp only [mkV,mkFu,mkR_map,hq]
  ·show sumV q+sumQ r=cntF q.f+sumBy cntF (r.map (·.f))
   rw [i2,ec]
   rfl
theorem heldFo_any (v:Value) (fs:List Fu) (q:Nat) (w:World) (hn:fs.length<=1048576) (hsm : ∀f∈fs,smallF f) (h0:0<q) (hq:(q:Int)+(sumBy cntF fs:Nat)<=1000000000) (h:Funcs w v (mkF q fs)) :
  Calls Tryz.prog 47 #[v,.int .i64 q] w fun e w'=>e = .returned (.int .i64 ((q+sumBy cntF fs:Nat):Int))/\Below w.heap.size w w':=by
 obtain ⟨a,cap,rfl,-,-,hc⟩:=h
 rw [mkF_len] at *
 have H:=hide hc
 have HSM:=hide hsm
 have HK:=hide hq
 clear hc hsm hq
 go_enter Tryz.func47,Tryz.ntmps47
 go_wp2_with fail
 go_loopw [1,5] (fun kk i wr=>∃k:Nat,k<=fs.length/\i = .int .i64 k/\kk = .int .i64 ((q+sumBy cntF (fs.take k):Nat):Int)/\Bl w wr) (fun _ i _=>fs.length-(intOf i).toNat)
 case atStart=>exact ⟨0,Nat.zero_le _,rfl,by simp [sumBy],Below.refl _ _⟩
 case round=>
  obtain ⟨k,hk,rfl,rfl,hB⟩:=hrel
  by_cases hlt:k<fs.length
  ·obtain ⟨b,off,rfl,hcc⟩:=H.out (by omega)
   obtain ⟨vp,vb,⟨c0,c1,c2⟩,hvp,hvb⟩:=(hcc.below hB) k (by rw [mkF_len];exact hlt)
   rw [mkF_get q fs k hlt] at c0 hvp hvb
   have hst:=sumBy_step cntF fs k hlt
   have hle:=sumBy_le cntF fs (k+1)
   have hcs:cntF fs[k]=1+fs[k].params.length+sumBy cntS fs[k].body:=rfl
   have hKK:=HK.out
   obtain ⟨hsp,hsb,hss⟩:=HSM.out fs[k] (List.getElem_mem hlt)
   obtain ⟨z,hz⟩ : ∃z:Nat,q+sumBy cntF (fs.take k)=z:=⟨_,rfl⟩
   obtain ⟨np,hnp⟩ : ∃np,fs[k].params.length=np:=⟨_,rfl⟩
   obtain ⟨nb,hnb⟩ : ∃nb,sumBy cntS fs[k].body=nb:=⟨_,rfl⟩
   have HZ:Hid (q+sumBy cntF (fs.take (k+1))=z+1+np+nb):=by show _=_;omega
   rw [hz] at c0 hvp hvb ⊢
   have hvp':Strs wr vp (mkP (z+1) fs[k].params):=hvp
   have hvb':Stmts wr vb (mkS (z+1+fs[k].params.length) fs[k].body):=hvb
   have c0':wr.cell? ⟨b,off+k*3,none⟩=some (.string (mtxt z)):=c0
   have hzb:(z:Int)+1+np+nb<=1000000000:=by omega
   have hz0:0<z:=by omega
   obtain ⟨y1,hy1⟩ : ∃y1,z+1+1*np=y1:=⟨_,rfl⟩
   obtain ⟨y2,hy2⟩ : ∃y2,y1+nb=y2:=⟨_,rfl⟩
   have HE:Hid (∀W,Bl wr W->Calls Tryz.prog 77 #[vp,.int .i64 ((z+1:Nat):Int)] W fun e w'=>e = .returned (.int .i64 ((y1:Nat):Int))/\Bl W w'):=fun W hW=>by
    have:=heldPo_any vp fs[k].params (z+1) W hsp (by omega) (by omega) (hvp'.below hW)
    rw [hnp,hy1] at this
    exact this
   have HF:Hid (∀W,Bl wr W->Calls Tryz.prog 78 #[vb,.int .i64 ((y1:Nat):Int)] W fun e w'=>e = .returned (.int .i64 ((y2:Nat):Int))/\Bl W w'):=fun W hW=>by
    rw [hnp,show z+1+np=y1 by omega] at hvb'
    have:=heldSo_any vb fs[k].body y1 W hsb hss (by omega) (by omega) (hvb'.below hW)
    rw [hnb,hy2] at this
    exact this
   have HYs:Hid (z+1+np+nb=y2):=by show _=_;omega
   have hyb:(y2:Int)<=1000000000:=by omega
   obtain ⟨ae,ce,rfl,-⟩:=hvp'
   obtain ⟨af,cf,rfl,-⟩:=hvb'
   obtain ⟨le,hle'⟩ : ∃le,(mkP (z+1) fs[k].params).length=le:=⟨_,rfl⟩
   obtain ⟨lf,hlf'⟩ : ∃lf,(mkS (z+1+fs[k].params.length) fs[k].body).length=lf:=⟨_,rfl⟩
   rw [hle'] at c1 HE
   rw [hlf'] at c2 HF
   have HC2:Hid (wr.cell? ⟨b,off+k*3+1,none⟩=some (.slice ae le ce)/\wr.cell? ⟨b,off+k*3+2,none⟩=some (.slice af lf cf)):=⟨c1,c2⟩
   have hl:=World.block_lt_of_cell? _ _ c0'
   simp only at hl
   have hm0:(z:Int)<=1000000000:=by omega
   have i1:(0:Int)<=(k:Int):=by omega
   have i2:(k:Int)<(fs.length:Int):=by omega
   clear c0 c1 c2 hvp hvb hst hle hcs hKK hsp hsb hss hz hnp hnb hy1 hy2 hle' hlf' hcc
   go_wp2_with fail
   go_region_held3 (fun W=>W.cell? ⟨b,off+k*3,none⟩=some (.string (mtxt z))) (go_simp)
    (first
    | (go_at_call 64;refine (mtext_any z hm0 hz0 _).mono ?_;rintro e w2 ⟨rfl,hb2⟩;have hcc : ∀b o,b<wr.heap.size->w2.cell? ⟨b,o,none⟩=wr.cell? ⟨b,o,none⟩:=(bcell hb2).1))
   have hb2':Bl wr w2:=((Below.refl _ _).drew).trans hb2
   have HB2:=hide hb2'
   have d2:=(hcc b (off+k*3+1) hl).trans HC2.out.1
   clear hcc c0' hb2 hb2'
   go_wp2_with fail
   rw [show ((z:Int)+1)=((z+1:Nat):Int) by omega]
   refine (HE.out w2 HB2.out).mono ?_
   rintro e w3 ⟨rfl,hb3⟩
   have HB3:Hid (Bl wr w3):=HB2.out.trans (hb3.mono HB2.out.size)
   have d3:=((bcell HB3.out).1 b (off+k*3+2) hl).trans HC2.out.2
   have n1:decide ((y1:Int)<0)=false:=decide_eq_false (by omega)
   clear d2 hb3
   go_wp2_with fail
   refine (HF.out w3 HB3.out).mono ?_
   rintro e w4 ⟨rfl,hb4⟩
   have hb4':Bl wr w4:=HB3.out.trans (hb4.mono HB3.out.size)
   clear d3 hb4
   have hB2:Bl w w4:=hB.trans (hb4'.mono hB.size)
   have n2:decide ((y2:Int)<0)=false:=decide_eq_false (by omega)
   clear n1
   go_wp2_with fail
   go_roundw
   case rel=>
    refine ⟨k+1,by omega,by go_num,?_,hB2⟩
    rw [HZ.out,HYs.out]
   case measure=>simp [intOf];omega
  ·obtain rfl:k=fs.length:=by omega
   go_wp2_with fail
   go_ret
   exact ⟨ret_int' (by rw [List.take_length]),hB⟩
theorem heldTo_any (vg vf:Value) (gs:List Gl) (fs:List Fu) (q:Nat) (w:World) (hg:gs.length<=1048576) (hn:fs.length<=1048576) (hsm : ∀f∈fs,smallF f) (h0:0<q) (hq:(q:Int)+2*gs.length+(sumBy cntF fs:Nat)<=1000000000) (h1:Globs w vg (mkG q gs)) (h2:Funcs w vf (mkF (q+2*gs.length) fs)) :
  Calls Tryz.prog 19 #[.agg #[vg,vf],.int .i64 q] w fun e w'=>e = .returned (.int .i64 ((q+2*gs.length+sumBy cntF fs:Nat):Int))/\Below w.heap.size w w':=by
 have HG:=hide fun W (hW:Bl w W)=>heldGo_any vg gs q W hg h0 (by omega) (h1.below hW)
 obtain ⟨y1,hy1⟩ : ∃y1,q+2*gs.length=y1:=⟨_,rfl⟩
 obtain ⟨y2,hy2⟩ : ∃y2,y1+sumBy cntF fs=y2:=⟨_,rfl⟩
 rw [hy1] at HG h2 ⊢
 rw [hy2]
 have HF:Hid (∀W,Bl w W->Calls Tryz.prog 47 #[vf,.int .i64 (y1:Int)] W fun e w'=>e = .returned (.int .i64 (y2:Int))/\Bl W w'):=fun W hW=>by
  have:=heldFo_any vf fs y1 W hn hsm (by omega) (by omega) (h2.below hW)
  rw [hy2] at this
  exact this
 obtain ⟨ag,cg,rfl,-⟩:=h1
 obtain ⟨af,cf,rfl,-⟩:=h2
 obtain ⟨lg,hlg⟩ : ∃l,(mkG q gs).length=l:=⟨_,rfl⟩
 obtain ⟨lf,hlf⟩ : ∃l,(mkF y1 fs).length=l:=⟨_,rfl⟩
 rw [hlg] at HG ⊢
 rw [hlf] at HF ⊢
 have n1:decide ((y1:Int)<0)=false:=decide_eq_false (by omega)
 have n2:decide ((y2:Int)<0)=false:=decide_eq_false (by omega)
 go_enter Tryz.func19,Tryz.ntmps19
 go_wp2_with fail
 have hA:Bl w (w.alloc (.cells #[.slice ag lg cg,.slice af lf cf] 34)):=bel_a _ _
 refine (HG.out _ hA).mono ?_
 rintro e w1 ⟨rfl,hb1⟩
 simp only [World.size_alloc] at hb1
 obtain ⟨x0,x1⟩:=box2 hb1
 have hB1:Bl w w1:=one_below hb1
 go_wp2_with fail
 refine (HF.out w1 hB1).mono ?_
 rintro e w2 ⟨rfl,hb2⟩
 have hB2:Bl w w2:=hB1.trans (hb2.mono hB1.size)
 go_wp2_with fail
 go_ret
 exact ⟨rfl,hB2⟩
end Go.Proofs.YtmddmgpijpjpbaaGreatDoor
namespace Go.Proofs.YtmddmgpijpjpbaaGreatDoor
open Go.RowKit
set_option linter.unusedVariables false
set_option linter.unusedSimpArgs false
set_option maxRecDepth 100000
set_option maxHeartbeats 16000000
theorem ROne.globs {B:Nat} {w:World} {v:Value} {gs:List Gl} {K:List Nat} (h:ROne B w v gs.length (flatG gs) K):Globs w v gs:=by
 rcases h with ⟨h0,-,a,c,rfl,hc⟩ | ⟨g,cap,rfl,-,h3,h4,-,-,h7⟩
 ·exact ⟨a,c,by rw [h0],by omega,hc,fun hp=>absurd hp (by omega)⟩
 ·refine ⟨_,cap,rfl,h3,h4,fun _=>⟨g,0,rfl,fun j hj => ?_⟩⟩
  have hget : ∀(l:List Gl) (m:Nat) (hm:m<l.length),(flatG l)[m*2]? = some (.string l[m].name)/\(flatG l)[m*2+1]? = some (.int .i64 l[m].size):=by
   intro l
   induction l with
   | nil=>intro m hm;simp at hm
   | cons x r ih=>
    intro m hm
    cases m with
    | zero=>exact ⟨rfl,rfl⟩
    | succ m=>
     obtain ⟨i1,i2⟩:=ih m (by simpa using hm)
     have e1:(m+1)*2=m*2+1+1:=by omega
     have e2:(m+1)*2+1=m*2+1+1+1:=by omega
     rw [e1,show m*2+1+1+1=(m*2+1)+1+1 from rfl]
     exact ⟨i1,i2⟩
  obtain ⟨e0,e1⟩:=hget gs j hj
  rw [Nat.zero_add]
  exact ⟨(h7 _ _ e0).1,(h7 _ _ e1).1⟩
theorem Tk.cells {K:List Nat} {w w':World} (h:Tk K w w') {g:Nat} (hg:g∉K) (hl:g<w.heap.size) (o:Nat):w'.cell? ⟨g,o,none⟩=w.cell? ⟨g,o,none⟩:=World.cell?_of_block (a:=⟨g,o,none⟩) (h.other g hl hg)
theorem markTo_any (B:Nat) (vg vf:Value) (gs:List Gl) (Q:List FV) (Kg Kf:List Nat) (k:Nat) (w:World) (hg:gs.length<=1048576) (hn:Q.length<=1048576) (hsm : ∀q∈Q,smallV q) (h0:0<k) (hk:(k:Int)+2*gs.length+(sumQ Q:Nat)<=1000000000) (h1:ROne B w vg gs.length (flatG gs) Kg) (h2:FnM B w vf Q Kf) (hsep : ∀g∈Kg,g∉Kf++blkF Q) (hB:B<=w.heap.size) :
  Calls Tryz.prog 13 #[.agg #[vg,vf],.int .i64 k] w fun e w'=>e = .returned (.int .i64 ((k+2*gs.length+sumQ Q:Nat):Int))/\Globs w' vg (mkG k gs)/\Funcs w' vf (mkF (k+2*gs.length) (Q.map (fun q:FV=>q.f)))/\Below B w w'/\Tk (Kg++(Kf++blkF Q)) w w':=by
 obtain ⟨ag,cg,rfl,-⟩:=h1.slice
 obtain ⟨af,cf,rfl,-⟩:=h2.row.slice
 have hA : ∀o,Bl w (w.alloc o):=fun o=>(Below.refl _ _).alloc (Nat.le_refl _) o
 obtain ⟨W0,hW0⟩ : ∃W0,W0=w.alloc (.cells #[.slice ag gs.length cg,.slice af Q.length cf] 34):=⟨_,rfl⟩
 have hb0:Bl w W0:=by rw [hW0];exact hA _
 obtain ⟨M,hM⟩ : ∃M,M=w.heap.size:=⟨_,rfl⟩
 have hs0:W0.heap.size=M+1:=by rw [hW0,hM];simp
 have hX0:FrC W0 M [.slice ag gs.length cg,.slice af Q.length cf]:=by rw [hW0,hM];exact box_fr2 _ _ _ _
 have r1:ROne B W0 (.slice ag gs.length cg) gs.length (flatG gs) Kg:=h1.keep hb0.size (fun g hg=>hb0.block g (h1.rng g hg).2)
 have r2:FnM B W0 (.slice af Q.length cf) Q Kf:=h2.below hb0
 have hMg:M∉Kg:=fun h=>by have:=(h1.rng M h).2;omega
 have hMf:M∉Kf++blkF Q:=fun h=>by have:=(h2.rng M h).2;omega
 obtain ⟨y1,hy1⟩ : ∃y1,k+2*gs.length=y1:=⟨_,rfl⟩
 obtain ⟨y2,hy2⟩ : ∃y2,y1+sumQ Q=y2:=⟨_,rfl⟩
 rw [hy1]
 rw [hy2]
 have HG:Hid (Calls Tryz.prog 37 #[.slice ag gs.length cg,.int .i64 (k:Int)] W0 fun e w'=>e = .returned (.int .i64 (y1:Int))/\ROne B w' (.slice ag gs.length cg) gs.length (flatG (mkG k gs)) Kg/\Tk Kg W0 w'):=by
  have:=markGo_any B _ gs Kg k W0 hg h0 (by omega) r1
  rw [hy1] at this
  exact this
 have HF:Hid (∀W,Tk Kg W0 W->FnM B W (.slice af Q.length cf) Q Kf/\Calls Tryz.prog 38 #[.slice af Q.length cf,.int .i64 (y1:Int)] W fun e w'=>e = .returned (.int .i64 (y2:Int))/\FnM B w' (.slice af Q.length cf) (mkQ y1 Q) Kf/\Tk (Kf++blkF Q) W w'):=fun W hW=>by
  have r3:FnM B W (.slice af Q.length cf) Q Kf:=r2.keep hW.size (fun g hg=>hW.other g (r2.rng g hg).2 (fun h=>hsep g h hg))
  have:=markFo_any B _ Q Kf y1 W hn hsm (by omega) (by omega) r3
  rw [hy2] at this
  exact ⟨r3,this⟩
 have HX:=hide fun W (hW:Tk Kg W0 W)=>(hW.cells hMg (by omega) 1).trans hX0.two.2.1
 have HE:Hid (∀W1 W2,Tk Kg W0 W1->Tk (Kf++blkF Q) W1 W2->ROne B W1 (.slice ag gs.length cg) gs.length (flatG (mkG k gs)) Kg->FnM B W2 (.slice af Q.length cf) (mkQ y1 Q) Kf->Globs W2 (.slice ag gs.length cg) (mkG k gs)/\Funcs W2 (.slice af Q.length cf) (mkF y1 (Q.map (fun q:FV=>q.f)))/\Below B w W2/\Tk (Kg++(Kf++blkF Q)) w W2):=fun W1 W2 t1 t2 g1 g2=>by
  refine ⟨?_,?_,?_,((Tk.of_below hb0).trans (t1.mono (fun g hg=>List.mem_append.2 (.inl hg)))).trans (t2.mono (fun g hg=>List.mem_append.2 (.inr hg)))⟩
  ·have:=g1.keep t2.size (fun g hg=>t2.other g (g1.rng g hg).2 (hsep g hg))
   have e:(mkG k gs).length=gs.length:=mkG_len k gs
   have:=ROne.globs (gs:=mkG k gs) (by rw [e];exact this)
   exact this
  ·have:=g2.funcs
   rw [(mkQ_map y1 Q (fun q hq=>(h2.each q hq).map)).1] at this
   exact this
  ·have b1:Below B W0 W1:=t1.below (fun g hg=>(h1.rng g hg).1) (by omega)
   have b2:Below B W1 W2:=t2.below (fun g hg=>(h2.rng g hg).1) (by have:=t1.size;omega)
   exact ((hb0.mono hB).trans b1).trans b2
 have HW0:=hide hW0
 have HM:=hide hM
 clear h1 h2 hsep r1 r2 hMg hMf hX0 hA hb0 hs0 hk hy1 hy2 hW0 hM hsm
 go_enter Tryz.func13,Tryz.ntmps13
 go_wp2_with fail
 rw [<-HW0.out,<-HM.out]
 refine HG.out.mono ?_
 rintro e w1 ⟨rfl,g1,t1⟩
 have x1:=HX.out w1 t1
 have HT1:=hide t1
 have HG1:=hide g1
 clear t1 g1
 go_wp2_with fail
 refine (HF.out w1 HT1.out).2.mono ?_
 rintro e w2 ⟨rfl,g2,t2⟩
 have HFin:Hid _:=HE.out w1 w2 HT1.out t2 HG1.out g2
 clear t2 g2 x1
 go_wp2_with fail
 go_ret
 exact ⟨rfl,HFin.out⟩
end Go.Proofs.YtmddmgpijpjpbaaGreatDoor
