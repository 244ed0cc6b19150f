import Derived.OwnWalk
import Derived.Laws.MakeOwn
import Derived.RegionTactic
import Derived.ChangeAlike
import Derived.Test.YtpdndlghjldhjaaGreatM24
import Derived.Below
namespace Go.Proofs.YtpdndlghjldhjaaGreat
set_option linter.unusedVariables false
set_option linter.unusedSimpArgs false
set_option maxRecDepth 100000
set_option maxHeartbeats 16000000
section
open Go.RowKit
theorem from_beg {ns:List Nd} {k i:Nat} {r:Int} (hk:k<=ns.length) (hb:begP ns k i) (h:fromP (ns.take k) r):r=i:=by
 have hlen:(ns.take k).length=k:=by simp;omega
 obtain ⟨b1,b2,b3⟩:=hb
 rcases h with ⟨i',rfl,h1,h2,h3⟩ | ⟨rfl,h1⟩
 ·rw [hlen] at h1 h3
  have:i'=i:=by
   rcases Nat.lt_trichotomy i' i with h | h | h
   ·have:=h3 i h (by omega);omega
   ·exact h
   ·have:=b3 i' h (by omega);omega
  omega
 ·have:=h1 i (by rw [hlen];omega)
  omega
theorem nhead_run (a:Option Addr) (n cap hi:Nat) (h2:hi<=n) (h3:n<=cap) : ∀w:World,(Instr.slice 91 (.slice a n cap) none (some (.int .i64 (hi:Int))) none).run Tryz.prog w = .ok (.slice a hi cap) w:=by
 intro w
 have hz:Tryz.prog.elem 91=120:=by kernel_rfl
 have hs:(sizeOf 120).run Tryz.prog w = .ok 3 w:=by kernel_rfl
 rw [run_slice_h w 91 a n cap (by rw [hz];exact Tryz.underlying91) .i64 _ (by omega) (by omega),hz,hs]
 simp only [Result.andThen,sliced,Int.toNat_natCast,Nat.sub_zero,Nat.zero_mul]
 have e:(if cap=0 then a else a.map (·.add 0))=a:=by
  split
  ·rfl
  ·cases a <;> simp [Addr.add]
 rw [e]
def KRow (w0 w:World) (N:Nat) (v:Value) (e:List Nd) (b:Nat->Nat) (A i:Nat):Prop:=
 ∃(B cap:Nat) (vs:List Value),v = .slice (some ⟨B,0,none⟩) (A-i) cap/\A-i<=cap/\cap<=9223372036854775807/\N<=B/\B<w.heap.size/\vs.length=A-i/\∀j (h:j<vs.length),w.cell? ⟨B,j,none⟩=some vs[j]/\Nodes w0 vs[j] (kid e b (i+j))
theorem KRow.below {w0 w w':World} {N:Nat} {v:Value} {e:List Nd} {b:Nat->Nat} {A i:Nat} (h:KRow w0 w N v e b A i) (hb:Below w.heap.size w w'):KRow w0 w' N v e b A i:=by
 obtain ⟨B,cap,vs,rfl,h1,h2,h3,h4,h5,h6⟩:=h
 refine ⟨B,cap,vs,rfl,h1,h2,h3,Nat.lt_of_lt_of_le h4 hb.size,h5,fun j hj=>⟨(hb.cell (p:=⟨B,j,none⟩) h4).trans (h6 j hj).1,(h6 j hj).2⟩⟩
theorem KRow.kids {w0 w:World} {N:Nat} {v:Value} {e:List Nd} {b:Nat->Nat} {A:Nat} (h:KRow w0 w N v e b A 0):Kids w0 w N v e b A:=by
 obtain ⟨B,cap,vs,rfl,h1,h2,h3,h4,h5,h6⟩:=h
 rw [Nat.sub_zero] at *
 refine ⟨_,cap,rfl,h1,h2,fun _=>⟨B,rfl,h3,h4,fun i hi => ?_⟩⟩
 have:=h6 i (by omega)
 rw [Nat.zero_add] at this
 exact ⟨_,this⟩
theorem nodes_one {w:World} {v:Value} {ns:List Nd} (h:Nodes w v ns):v.oneCell'=true:=by
 obtain ⟨a,cap,rfl,_⟩:=h
 rfl
theorem addr0 (g j:Nat):(⟨g,0,none⟩:Addr).add j=⟨g,j,none⟩:=by
 simp [Addr.add]
 try (intro h;omega)
theorem KRow.cons {w0 w w':World} {N:Nat} {v' u:Value} {vs:List Value} {e:List Nd} {b:Nat->Nat} {A i n:Nat} (hi:i<A) (hvl:vs.length=A-(i+1)) (hvs : ∀j (h:j<vs.length),Nodes w0 vs[j] (kid e b (i+1+j))) (hu:Nodes w0 u (kid e b i)) (hown:w'.ownsRow N 91 1 v' (1+n) ([u]++vs)) (hn:n=A-(i+1)):KRow w0 w' N v' e b A i:=by
 have hown0:=hown
 obtain ⟨hlen,h⟩:=hown
 rcases h with ⟨_,h0⟩ | ⟨g,cap,cur,rfl,hg,hh,hc1,hc2,hc3,hc4⟩
 ·omega
 ·refine ⟨g,cap,u::vs,by rw [show 1+n=A-i by omega],by omega,by simp only [maxLen] at hc2;omega,hg,(Array.getElem?_eq_some_iff.1 hh).1,by simp;omega,fun j hj => ?_⟩
  have hcell:=hown0.cells (g:=g) rfl j ((u::vs)[j]) (by simp [List.getElem?_eq_getElem hj])
  rw [addr0] at hcell
  refine ⟨hcell,?_⟩
  cases j with
  | zero=>simpa using hu
  | succ j=>
   have:=hvs j (by simpa using hj)
   simpa [Nat.add_comm,Nat.add_left_comm,Nat.add_assoc] using this
theorem kids_any (w0:World) (v:Value) (e:List Nd) (A:Nat) (b:Nat->Nat) (w:World) (hl:e.length<=1048576) (hc:Nodes w0 v e) (hB0:Below w0.heap.size w0 w) (hb:Cut e A b) :
  Calls Tryz.prog 80 #[v] w fun r w'=>∃v',r = .returned v'/\Kids w0 w' w.heap.size v' e b A/\Below w.heap.size w w':=by
 have HN:=hide hc
 have HB0:=hide hB0
 have HB:=hide hb
 obtain ⟨a,cap,rfl,hcl,hcm,-⟩:=hc
 have hpos:=hb.len
 obtain ⟨m,hm⟩ : ∃m,e.length=m+1:=⟨e.length-1,by omega⟩
 have hA6:=hb.arA
 have hA6':(A:Int)<=6:=by omega
 obtain ⟨i0,hi,hz0,hz1,hz2⟩:=info_parts info_nodes
 have HR:Hid (∀W:World,Bl w W->Calls Tryz.prog 79 #[.slice a e.length cap] W fun r w'=>r = .returned (.agg #[.int .i64 (rootN e).kind,.int .i64 (rootN e).val,.string (rootN e).name])/\Bl W w'):=fun W hW=>by
  have:=root_any _ e W hpos hl (HN.out.below (HB0.out.trans (hW.mono HB0.out.size)))
  rw [<-rootN_eq e hpos] at this
  exact this
 have HA:Hid (∀W:World,Calls Tryz.prog 91 #[.agg #[.int .i64 (rootN e).kind,.int .i64 (rootN e).val,.string (rootN e).name]] W fun r w'=>r = .returned (.int .i64 A)/\Bl W w'):=fun W=>by
  have:=arity_nd (rootN e) W
  rw [hb.ar] at this
  exact this
 generalize (rootN e).kind=rk at HR HA
 generalize (rootN e).val=rv at HR HA
 generalize (rootN e).name=rn at HR HA
 have HM:=hide hm
 have e1:((m+1:Nat):Int)-1=(m:Int):=by omega
 rw [hm] at hl hcl hpos HN HR ⊢
 clear hb hB0 hm
 have hnr:=nhead_run a (m+1) cap m (by omega) hcl
 go_enter Tryz.func80,Tryz.ntmps80
 go_wp2_with fail
 refine (HR.out _ (bel_a _ _)).mono ?_
 rintro x w1 ⟨rfl,hb1⟩
 go_wp2_with fail
 refine (HA.out w1).mono ?_
 rintro x w2 ⟨rfl,hb2⟩
 have hbW:Bl w w2:=((bel_a _ _).trans (hb1.mono (by simp))).trans (hb2.mono (by have:=hb1.size;simp at this;omega))
 have hs1:=hb1.size
 have hs2:=hb2.size
 simp only [World.size_alloc] at hs1
 have HK0:Hid (KRow w0 w2 w.heap.size (.slice (some ⟨w.heap.size,0,none⟩) 0 0) e b A A):=⟨w.heap.size,0,[],by rw [Nat.sub_self],by omega,by omega,Nat.le_refl _,by omega,by simp,fun j hj=>absurd hj (by simp)⟩
 have HBW:=hide hbW
 clear hb1 hb2 hbW hs1 hs2 hnr
 go_wp2_with fail
 go_loopw [3,4,5] (fun rs ot ix wr=>∃(k:Nat),k<=A/\ix = .int .i64 (k:Int)/\rs = .slice a (b k) cap/\KRow w0 wr w.heap.size ot e b A k/\Bl w wr) (fun _ _ ix _=>(RowKit.intOf ix).toNat)
 case atStart=>exact ⟨A,Nat.le_refl _,rfl,by rw [HB.out.last,HM.out];rfl,HK0.out,HBW.out⟩
 case round=>
  obtain ⟨k,hk,rfl,rfl,hK,hB⟩:=hrel
  have HK:=hide hK
  rcases Nat.eq_zero_or_pos k with rfl | hk0
  ·have HKs:Hid (Kids w0 wr w.heap.size u4 e b A):=hK.kids
   clear hK
   go_wp2_with fail
   exact bodyPost_ret (v:=u4) (by simp [results,Tryz.results80,go_sem]) rfl ⟨_,rfl,HKs.out,hB⟩
  ·obtain ⟨i,rfl⟩ : ∃i,k=i+1:=⟨k-1,by omega⟩
   have hbe:=(HB.out.beg i (by omega)).1
   have hble:=HB.out.le' (i+1) (by omega)
   rw [HM.out] at hble
   have HC:Hid (Calls Tryz.prog 92 #[.slice a (b (i+1)) cap] wr fun x w'=>x = .returned (.int .i64 (b i))/\Bl wr w'):=by
    have hNh:Nodes wr (.slice a (b (i+1)) cap) (e.take (b (i+1))):=(Nodes.head (by rw [HM.out];exact HN.out.below (HB0.out.trans (hB.mono HB0.out.size))) (b (i+1)) (by rw [HM.out];omega))
    refine (from_any _ (e.take (b (i+1))) wr (by simp;omega) (fun n hn=>HB.out.good n (List.mem_of_mem_take hn)) hNh).mono ?_
    rintro x w' ⟨r,hf,-,-,rfl,hb⟩
    rw [from_beg (by rw [HM.out];omega) (HB.out.beg i (by omega)) hf]
    exact ⟨rfl,hb⟩
   have hcut:=ncut_run_l a (b (i+1)) cap (b i) (by omega) (by omega)
   have hhd:=nhead_run a (b (i+1)) cap (b i) (by omega) (by omega)
   have HNC:Hid (Nodes w0 (.slice (if cap=b i then a else a.map (·.add (b i*3))) (b (i+1)-b i) (cap-b i)) (kid e b i)):=Nodes.cut (by rw [HM.out];exact HN.out) (b i) (b (i+1)) (by omega) (by rw [HM.out];omega)
   generalize (if cap=b i then a else a.map (·.add (b i*3)))=ua at hcut HNC
   generalize b (i+1)-b i=un at hcut HNC
   generalize cap-b i=uc at hcut HNC
   obtain ⟨B,kc,vs,rfl,k1,k2,k3,k4,k5,k6⟩:=hK
   have HV:Hid (∀j (h:j<vs.length),Nodes w0 vs[j] (kid e b (i+1+j))):=fun j hj=>(k6 j hj).2
   have HVC:Hid (∀j (h:j<vs.length),wr.cell? ⟨B,j,none⟩=some vs[j]):=fun j hj=>(k6 j hj).1
   clear k6 HK
   generalize hbi:b i=bi at *
   generalize hbi1:b (i+1)=bi1 at *
   go_wp2_with fail
   refine HC.out.mono ?_
   rintro x w3 ⟨rfl,hb3⟩
   have hB3:=hB.trans (hb3.mono hB.size)
   have HNews:Hid (∀o j u,vs[j]? = some u->(w3.alloc o).cell? ((⟨B,0,none⟩:Addr).add j)=some u):=fun o j u hj=>by
    obtain ⟨hlt,rfl⟩:=List.getElem?_eq_some_iff.1 hj
    rw [addr0,((hb3.alloc hb3.size o)).cell (p:=⟨B,j,none⟩) k4]
    exact HVC.out j hlt
   have HOne:Hid (∀u∈vs,u.oneCell'=true):=fun u hu=>by
    obtain ⟨j,hj,rfl⟩:=List.mem_iff_getElem.1 hu
    exact nodes_one (HV.out j hj)
   have hs3:=hB3.size
   have hs3':=hb3.size
   go_wp2_with (at_builtin;refine wpList_append_own _ rfl _ _ 154 rfl w.heap.size 91 i0 (.slice none 0 0) 1 24 Tryz.underlying154 hi hz0 hz1 hz2 rfl (by decide) _ 1 [.slice ua un uc] rfl (World.ownsRow_lit w3 #[.slice ua un uc] 1 hs3 (by decide) rfl) ⟨B,0,none⟩ (A-(i+1)) kc vs rfl (by rw [k5,Nat.mul_one]) (HNews.out _) HOne.out (by unfold maxLen;omega) (by omega) (by simp;omega) ?_)
   intro v' w4 hown hgrow _
   have hB4:Bl w w4:=(hB3.alloc hs3 _).grown hgrow (by simp;omega) (fun k hk=>by simp only [Value.ownBlock,Option.some.injEq] at hk;omega)
   have HKc:Hid (KRow w0 w4 w.heap.size v' e b A i):=KRow.cons (w:=w) (by omega) k5 HV.out HNC.out hown rfl
   clear hown hgrow
   go_wp2_with fail
   go_roundw
   case rel=>exact ⟨i,by omega,by go_num,by rw [hbi],HKc.out,hB4⟩
   case measure=>simp [RowKit.intOf]
end
section
end
section
open Go.RowKit
def StmtsC (w : World) (b off : Nat) (ss : List St) : Prop := ∀ j (h : j < ss.length), ∃ ve vf,
 (w.cell? ⟨b, off + j * 6, none⟩ = some (.int .i64 ss[j].kind) ∧ w.cell? ⟨b, off + j * 6 + 1, none⟩ = some (.string ss[j].name) ∧ w.cell? ⟨b, off + j * 6 + 2, none⟩ = some ve ∧ w.cell? ⟨b, off + j * 6 + 3, none⟩ = some vf ∧ w.cell? ⟨b, off + j * 6 + 4, none⟩ = some (.int .i64 ss[j].thn) ∧ w.cell? ⟨b, off + j * 6 + 5, none⟩ = some (.int .i64 ss[j].els)) ∧ Nodes w ve ss[j].e ∧ Nodes w vf ss[j].f
theorem StmtsC.below {w w' : World} {b off : Nat} {ss : List St} (h : StmtsC w b off ss) (hb : Below w.heap.size w w') : StmtsC w' b off ss := by
 intro j hj
 obtain ⟨ve, vf, ⟨c0, c1, c2, c3, c4, c5⟩, he, hf⟩ := h j hj
 have hlt := World.block_lt_of_cell? _ _ c0
 exact ⟨ve, vf, ⟨(hb.cell (p := ⟨b, off + j * 6, none⟩) hlt).trans c0, (hb.cell (p := ⟨b, off + j * 6 + 1, none⟩) hlt).trans c1, (hb.cell (p := ⟨b, off + j * 6 + 2, none⟩) hlt).trans c2, (hb.cell (p := ⟨b, off + j * 6 + 3, none⟩) hlt).trans c3, (hb.cell (p := ⟨b, off + j * 6 + 4, none⟩) hlt).trans c4, (hb.cell (p := ⟨b, off + j * 6 + 5, none⟩) hlt).trans c5⟩, he.below hb, hf.below hb⟩
def Stmts (w : World) (v : Value) (ss : List St) : Prop := ∃ a cap, v = .slice a ss.length cap ∧ ss.length ≤ cap ∧ cap ≤ 9223372036854775807 ∧ (0 < ss.length → ∃ b off, a = some ⟨b, off, none⟩ ∧ StmtsC w b off ss)
theorem Stmts.below {w w' : World} {v : Value} {ss : List St} (h : Stmts w v ss) (hb : Below w.heap.size w w') : Stmts w' v ss := by
 obtain ⟨a, cap, rfl, hl, hm, h⟩ := h
 refine ⟨a, cap, rfl, hl, hm, fun h0 => ?_⟩
 obtain ⟨b, off, rfl, hc⟩ := h h0
 exact ⟨b, off, rfl, hc.below hb⟩
theorem Stmts.cut {w : World} {a : Option Addr} {cap : Nat} {ss : List St} (h : Stmts w (.slice a ss.length cap) ss) (lo hi : Nat) (h1 : lo ≤ hi) (h2 : hi ≤ ss.length) :
  Stmts w (.slice (if cap = lo then a else a.map (·.add (lo * 6))) (hi - lo) (cap - lo)) ((ss.take hi).drop lo) := by
 obtain ⟨a', cap', he, hl, hm, h⟩ := h
 simp only [Value.slice.injEq, true_and] at he
 obtain ⟨rfl, rfl⟩ := he
 refine ⟨if cap = lo then a else a.map (·.add (lo * 6)), cap - lo, by simp [Nat.min_eq_left h2], by simp [Nat.min_eq_left h2]; omega, by omega, fun h0 => ?_⟩
 simp only [List.length_drop, List.length_take, Nat.min_eq_left h2] at h0
 obtain ⟨b, off, rfl, hc⟩ := h (by omega)
 refine ⟨b, off + lo * 6, ?_, fun j hj => ?_⟩
 ·rw [if_neg (by omega)]; simp [Addr.add]
 ·simp only [List.length_drop, List.length_take, Nat.min_eq_left h2] at hj
  obtain ⟨ve, vf, hcc, he, hf⟩ := hc (lo + j) (by omega)
  have e : ((ss.take hi).drop lo)[j]'(by simp; omega) = ss[lo + j]'(by omega) := by simp
  rw [e]
  refine ⟨ve, vf, ?_, he, hf⟩
  have e1 : off + lo * 6 + j * 6 = off + (lo + j) * 6 := by omega
  rw [e1]
  exact hcc
theorem cut_run (a : Option Addr) (n cap lo hi : Nat) (h1 : lo ≤ hi) (h2 : hi ≤ n) (h3 : n ≤ cap) : ∀ w : World, (Instr.slice 84 (.slice a n cap) (some (.int .i64 lo)) (some (.int .i64 ((lo : Int) + ((hi - lo : Nat) : Int)))) none).run Tryz.prog w = .ok (.slice (if cap = lo then a else a.map (·.add (lo * 6))) (hi - lo) (cap - lo)) w := by
 intro w
 have hz : Tryz.prog.elem 84 = 94 := by kernel_rfl
 have hs : (sizeOf 94).run Tryz.prog w = .ok 6 w := by kernel_rfl
 rw [run_slice_lh w 84 a n cap (by rw [hz]; exact Tryz.underlying84) .i64 .i64 _ _ (by omega) (by omega) (by omega), hz, hs]
 simp only [Result.andThen, sliced, Int.toNat_natCast]
 have e : (((lo : Int) + ((hi - lo : Nat) : Int))).toNat = hi := by omega
 rw [e]
def lenOf : Value → Nat | .slice _ n _ => n | _ => 0
end
section
open Go.RowKit
set_option maxHeartbeats 1000000 in
theorem gstmtX (k : Int) (s : ByteArray) (ve vf : Value) (es fs : List Nd) (t l : Int) (w : World) (hk : k < 1 ∨ 8 < k) (he : Nodes w ve es) (hf : Nodes w vf fs) :
  Calls Tryz.prog 102 #[.agg #[.int .i64 k, .string s, ve, vf, .int .i64 t, .int .i64 l]] w fun e w' => e = .returned (.bool (gstmtB ⟨k, s, es, fs, t, l⟩)) ∧ Below w.heap.size w w' := by
 obtain ⟨ae, ce, rfl, -, -, -⟩ := he
 obtain ⟨af, cf, rfl, -, -, -⟩ := hf
 have hd : decide (1 ≤ k ∧ k ≤ 8) = false := by simp; omega
 have hs : gstmtB ⟨k, s, es, fs, t, l⟩ = false := by
  simp only [gstmtB, stmtB, hd, Bool.false_and]
 rw [hs]
 have h1 : (k == 1) = false := by simp; omega
 have h2 : (k == 2) = false := by simp; omega
 have h3 : (k == 3) = false := by simp; omega
 have HD : Hid (decide (1 ≤ k ∧ k ≤ 8) = false) := hd
 clear hs hd hk
 go_enter Tryz.func102, Tryz.ntmps102
 go_wp2_with (go_at_call 20; refine (in_any _ _ _ _).mono ?_; rintro e w' ⟨rfl, rfl⟩; rw [HD.out])
 go_ret
 exact ⟨rfl, (Below.refl _ _).alloc (Nat.le_refl _) _⟩
theorem gstmt_any (s : St) (ve vf : Value) (w : World) (hle : s.e.length ≤ 2000) (hlf : s.f.length ≤ 2000) (he : Nodes w ve s.e) (hf : Nodes w vf s.f) :
  Calls Tryz.prog 102 #[.agg #[.int .i64 s.kind, .string s.name, ve, vf, .int .i64 s.thn, .int .i64 s.els]] w fun e w' => e = .returned (.bool (gstmtB s)) ∧ Below w.heap.size w w' := by
 obtain ⟨k, s, es, fs, t, l⟩ := s
 by_cases hk : k < 1 ∨ 8 < k
 ·exact gstmtX k s ve vf es fs t l w hk he hf
 have h9 : k = 1 ∨ k = 2 ∨ k = 3 ∨ k = 4 ∨ k = 5 ∨ k = 6 ∨ k = 7 ∨ k = 8 := by omega
 rcases h9 with rfl | rfl | rfl | rfl | rfl | rfl | rfl | rfl
 ·exact gstmt1 1 (.inl rfl) s ve vf es fs t l w hle hlf he hf
 ·exact gstmt1 2 (.inr rfl) s ve vf es fs t l w hle hlf he hf
 ·exact gstmt3 s ve vf es fs t l w hle hlf he hf
 ·exact gstmt4 4 (.inl rfl) s ve vf es fs t l w hle hlf he hf
 ·exact gstmt4 5 (.inr (.inl rfl)) s ve vf es fs t l w hle hlf he hf
 ·exact gstmt4 6 (.inr (.inr (.inl rfl))) s ve vf es fs t l w hle hlf he hf
 ·exact gstmt4 7 (.inr (.inr (.inr (.inl rfl)))) s ve vf es fs t l w hle hlf he hf
 ·exact gstmt4 8 (.inr (.inr (.inr (.inr rfl)))) s ve vf es fs t l w hle hlf he hf
end
section
open Go.RowKit
end
section
open Go.RowKit
structure SV where
 s : St
 ve : Value
 vf : Value
 ke : List Nat
 kf : List Nat
def cellsS (q : SV) : List Value := [.int .i64 q.s.kind, .string q.s.name, q.ve, q.vf, .int .i64 q.s.thn, .int .i64 q.s.els]
def flatS (R : List SV) : List Value := R.flatMap cellsS
theorem flatS_len (R : List SV) : (flatS R).length = R.length * 6 := by
 induction R with
 | nil => rfl
 | cons a r ih =>
  have : (flatS (a :: r)).length = 6 + (flatS r).length := by simp [flatS, cellsS]; omega
  rw [this, ih, List.length_cons]
  omega
theorem flatS_append (a b : List SV) : flatS (a ++ b) = flatS a ++ flatS b := by simp [flatS]
theorem flatS_get : ∀ (R : List SV) (j i : Nat) (hj : j < R.length), i < 6 → (flatS R)[j * 6 + i]? = (cellsS R[j])[i]?
 | x :: l, 0, i, _, hi => by
  have : (cellsS x).length = 6 := rfl
  show (cellsS x ++ flatS l)[0 * 6 + i]? = _
  rw [List.getElem?_append_left (by omega)]
  simp
 | x :: l, j + 1, i, hj, hi => by
  have h7 : (cellsS x).length = 6 := rfl
  show (cellsS x ++ flatS l)[(j + 1) * 6 + i]? = _
  rw [List.getElem?_append_right (by omega)]
  have e : (j + 1) * 6 + i - (cellsS x).length = j * 6 + i := by omega
  rw [e, flatS_get l j i (by simpa using hj) hi]
  simp
theorem flatS_one (R : List SV) (h : ∀ q ∈ R, q.ve.oneCell' = true ∧ q.vf.oneCell' = true) : ∀ u ∈ flatS R, u.oneCell' = true := by
 intro u hu
 simp only [flatS, List.mem_flatMap] at hu
 obtain ⟨q, hq, hu⟩ := hu
 obtain ⟨h1, h2⟩ := h q hq
 simp only [cellsS, List.mem_cons, List.not_mem_nil, or_false] at hu
 rcases hu with rfl | rfl | rfl | rfl | rfl | rfl
 ·rfl
 ·rfl
 ·exact h1
 ·exact h2
 ·rfl
 ·rfl
theorem info_stmt : (Tryz.prog.info? 94).map (fun i => (i.zero, i.size, i.bytes)) = some (some (.agg #[.int .i64 0, .string ⟨#[]⟩, .slice none 0 0, .slice none 0 0, .int .i64 0, .int .i64 0]), 6, 88) := by kernel_rfl
theorem Nodes.cell1 {w : World} {v : Value} {ns : List Nd} (h : Nodes w v ns) : v.oneCell' = true := by
 obtain ⟨a, c, rfl, -⟩ := h
 rfl
end
section
open Go.RowKit
theorem cut_run2 (a:Option Addr) (n cap lo hi:Nat) (h1:lo<=hi) (h2:hi<=n) (h3:n<=cap) (l' h':Int) (hl':l'=lo) (hh':h'=hi) : ∀w:World,(Instr.slice 84 (.slice a n cap) (some (.int .i64 l')) (some (.int .i64 h')) none).run Tryz.prog w = .ok (.slice (if cap=lo then a else a.map (·.add (lo*6))) (hi-lo) (cap-lo)) w:=by
 intro w
 have h:=cut_run a n cap lo hi h1 h2 h3 w
 rw [show ((lo:Int)+((hi-lo:Nat):Int))=hi by omega] at h
 rw [hl',hh']
 exact h
def nonneg (ss:List St):Prop:=∀s∈ss,0<=s.thn/\0<=s.els
theorem nonneg.take {ss:List St} (h:nonneg ss) (n:Nat):nonneg (ss.take n):=fun s hs=>h s (List.mem_of_mem_take hs)
theorem nonneg.drop {ss:List St} (h:nonneg ss) (n:Nat):nonneg (ss.drop n):=fun s hs=>h s (List.mem_of_mem_drop hs)
theorem shaped_any (n:Nat) : ∀(v:Value) (ss:List St) (w:World) (hn:ss.length<=n) (hl:ss.length<=1048576) (hp:nonneg ss) (hc:Stmts w v ss),
  Calls Tryz.prog 103 #[v] w fun e w'=>e = .returned (.bool (fitB ss))/\Below w.heap.size w w':=by
 induction n with
 | zero=>
  intro v ss w hn hl hp hc
  have:ss = []:=List.eq_nil_of_length_eq_zero (by omega)
  subst this
  obtain ⟨a,cap,rfl,hcl,hcm,hc⟩:=hc
  simp only [l_n] at *
  clear hc hp
  go_enter Tryz.func103,Tryz.ntmps103
  go_wp2_with fail
  refine wp_loop_rounds 1 ?_
  rw [rounds_succ]
  go_wp2_with fail
  go_ret
  exact ⟨rfl,Below.refl _ _⟩
 | succ n ih=>
 intro v ss w hn hl hp hc
 have IH:=hide ih
 have HP:=hide hp
 have HN:=hide hc
 obtain ⟨a,cap,rfl,hcl,hcm,hc⟩:=hc
 have HC:=hide hc
 clear hc ih hp
 go_enter Tryz.func103,Tryz.ntmps103
 go_wp2_with fail
 go_loopw [3] (fun i wr=>∃k:Nat,k<=ss.length/\i = .int .i64 k/\fitB ss=fitB (ss.drop k)/\Bl w wr) (fun i _=>ss.length-(RowKit.intOf i).toNat)
 case atStart=>exact ⟨0,Nat.zero_le _,rfl,rfl,Below.refl _ _⟩
 case round=>
  obtain ⟨k,hk,rfl,hfit,hB⟩:=hrel
  have HF:=hide hfit
  clear hfit
  by_cases hlt:k<ss.length
  case neg=>
   go_wp2_with fail
   go_ret
   exact ⟨ret_bool (by rw [HF.out,List.drop_of_length_le (by omega)];rfl),hB⟩
  case pos=>
   obtain ⟨b,off,rfl,hs⟩:=HC.out (by omega)
   obtain ⟨ve,vf,⟨c0,c1,c2,c3,c4,c5⟩,he,hf⟩:=(hs.below hB) k hlt
   have HFC:Hid _:=(HF.out.trans (congrArg fitB (List.drop_eq_getElem_cons hlt))).trans (fitB_cons ss[k] (ss.drop (k+1)))
   have hnn:=HP.out ss[k] (List.getElem_mem hlt)
   obtain ⟨a2,k2,rfl,-,-,-⟩:=he
   obtain ⟨a3,k3,rfl,-,-,-⟩:=hf
   clear hs HC HF
   generalize hr:ss.drop (k+1)=r at HFC
   have hrl:r.length+k+1=ss.length:=by rw [<-hr];simp;omega
   generalize ss[k].kind=kI at c0
   generalize ss[k].name=nI at c1
   generalize ss[k].thn=tI at c4 HFC hnn
   generalize ss[k].els=lI at c5 HFC hnn
   generalize ss[k].e.length=n2 at c2
   generalize ss[k].f.length=n3 at c3
   obtain ⟨tn,rfl⟩:=Int.eq_ofNat_of_zero_le hnn.1
   obtain ⟨ln,rfl⟩:=Int.eq_ofNat_of_zero_le hnn.2
   clear hnn
   have HR:=hide hr
   have HRL:=hide hrl
   have hB1:Bl w (wr.alloc (.cells #[.int .i64 kI,.string nI,.slice a2 n2 k2,.slice a3 n3 k3,.int .i64 tn,.int .i64 ln] 94)):=hB.alloc hB.size _
   clear hr
   by_cases q2:(ss.length:Int)-k-1<tn
   ·clear hrl
    go_wp2_with fail
    go_ret
    exact ⟨ret_bool (by have:=HRL.out;rw [HFC.out,decide_eq_false (by omega)];rfl),hB1⟩
   by_cases q4:(ss.length:Int)-k-1-tn<ln
   ·clear hrl
    go_wp2_with fail
    go_ret
    exact ⟨ret_bool (by have:=HRL.out;rw [HFC.out,decide_eq_false (by omega)];rfl),hB1⟩
   have hlt2:k+1+tn+ln<=ss.length:=by omega
   have HC1:Hid (fitB ss=(fitB (r.take tn) && (fitB ((r.take (tn+ln)).drop tn) && fitB (r.drop (tn+ln))))):=by
    show _=_
    rw [HFC.out,decide_eq_true (by omega)];simp
   have HE1:Hid ((ss.take (k+1+tn)).drop (k+1)=r.take tn):=by
    show _=_
    rw [<-HR.out,List.drop_take];congr 1;omega
   have HE2:Hid ((ss.take (k+1+tn+ln)).drop (k+1+tn)=(r.take (tn+ln)).drop tn):=by
    show _=_
    rw [<-HR.out,List.drop_take,List.drop_take,List.drop_drop];congr 1;omega
   have HE3:Hid (ss.drop (k+1+tn+ln)=r.drop (tn+ln)):=by
    show _=_
    rw [<-HR.out,List.drop_drop];congr 1;omega
   obtain ⟨a5,k5,hr5,hs5⟩ : ∃a5 k5,(∀w:World,(Instr.slice 84 (.slice (some ⟨b,off,none⟩) ss.length cap) (some (.int .i64 ((k:Int)+1))) (some (.int .i64 ((k:Int)+1+(tn:Int)))) none).run Tryz.prog w = .ok (.slice a5 tn k5) w)/\Stmts w (.slice a5 tn k5) (r.take tn):=by
    have h:=cut_run2 (some ⟨b,off,none⟩) ss.length cap (k+1) (k+1+tn) (by omega) (by omega) (by omega) ((k:Int)+1) ((k:Int)+1+(tn:Int)) (by omega) (by omega)
    have h':=HN.out.cut (k+1) (k+1+tn) (by omega) (by omega)
    rw [show k+1+tn-(k+1)=tn by omega] at h h'
    rw [HE1.out] at h'
    exact ⟨_,_,h,h'⟩
   have HS5:=hide hs5
   clear hs5 HFC hrl
   go_wp2_with fail
   refine (IH.out _ (r.take tn) _ (by have:=HRL.out;simp;omega) (by have:=HRL.out;simp;omega) (by rw [<-HR.out];exact (HP.out.drop _).take _) (HS5.out.below hB1)).mono ?_
   rintro e w1 ⟨rfl,hb1⟩
   have hb1':Below (wr.heap.size+1) (wr.alloc (.cells #[.int .i64 kI,.string nI,.slice a2 n2 k2,.slice a3 n3 k3,.int .i64 tn,.int .i64 ln] 94)) w1:=hb1.mono (by simp)
   have hB2:=hB.trans ((one_below hb1').mono hB.size)
   obtain ⟨x0,x1,x2,x3,x4,x5⟩:=box6 hb1'
   clear hb1 hr5 HS5
   cases hf1:fitB (r.take tn)
   ·go_wp2_with fail
    go_ret
    exact ⟨ret_bool (by rw [HC1.out,hf1];rfl),hB2⟩
   obtain ⟨a6,k6,hr6,hs6⟩ : ∃a6 k6,(∀w:World,(Instr.slice 84 (.slice (some ⟨b,off,none⟩) ss.length cap) (some (.int .i64 ((k:Int)+1+(tn:Int)))) (some (.int .i64 ((k:Int)+1+(tn:Int)+(ln:Int)))) none).run Tryz.prog w = .ok (.slice a6 ln k6) w)/\Stmts w (.slice a6 ln k6) ((r.take (tn+ln)).drop tn):=by
    have h:=cut_run2 (some ⟨b,off,none⟩) ss.length cap (k+1+tn) (k+1+tn+ln) (by omega) (by omega) (by omega) ((k:Int)+1+(tn:Int)) ((k:Int)+1+(tn:Int)+(ln:Int)) (by omega) (by omega)
    have h':=HN.out.cut (k+1+tn) (k+1+tn+ln) (by omega) (by omega)
    rw [show k+1+tn+ln-(k+1+tn)=ln by omega] at h h'
    rw [HE2.out] at h'
    exact ⟨_,_,h,h'⟩
   have HS6:=hide hs6
   clear hs6
   go_wp2_with fail
   refine (IH.out _ ((r.take (tn+ln)).drop tn) _ (by have:=HRL.out;simp;omega) (by have:=HRL.out;simp;omega) (by rw [<-HR.out];exact ((HP.out.drop _).take _).drop _) (HS6.out.below hB2)).mono ?_
   rintro e w2 ⟨rfl,hb2⟩
   have hb2':=hb1'.trans (hb2.mono (by have:=hb1'.size;simp at this;omega))
   have hB3:=hB.trans ((one_below hb2').mono hB.size)
   clear x0 x1 x2 x3 x4 x5 hr6
   obtain ⟨x0,x1,x2,x3,x4,x5⟩:=box6 hb2'
   cases hf2:fitB ((r.take (tn+ln)).drop tn)
   ·go_wp2_with fail
    go_ret
    exact ⟨ret_bool (by rw [HC1.out,hf1,hf2];rfl),hB3⟩
   go_wp2_with fail
   go_roundw
   case rel=>exact ⟨k+1+tn+ln,by omega,by go_num,by rw [HC1.out,hf1,hf2,HE3.out];rfl,hB3⟩
   case measure=>simp [RowKit.intOf];omega
end
section
open Go.RowKit
def StrsC (w : World) (b off : Nat) (ps : List ByteArray) : Prop := ∀ j (h : j < ps.length), w.cell? ⟨b, off + j, none⟩ = some (.string ps[j])
theorem StrsC.below {w w' : World} {b off : Nat} {ps : List ByteArray} (h : StrsC w b off ps) (hb : Below w.heap.size w w') : StrsC w' b off ps := by
 intro j hj
 have c := h j hj
 exact (hb.cell (World.block_lt_of_cell? _ _ c)).trans c
def Strs (w : World) (v : Value) (ps : List ByteArray) : Prop := ∃ a cap, v = .slice a ps.length cap ∧ ps.length ≤ cap ∧ cap ≤ 9223372036854775807 ∧ (0 < ps.length → ∃ b off, a = some ⟨b, off, none⟩ ∧ StrsC w b off ps)
theorem Strs.below {w w' : World} {v : Value} {ps : List ByteArray} (h : Strs w v ps) (hb : Below w.heap.size w w') : Strs w' v ps := by
 obtain ⟨a, cap, rfl, hl, hm, h⟩ := h
 refine ⟨a, cap, rfl, hl, hm, fun h0 => ?_⟩
 obtain ⟨b, off, rfl, hc⟩ := h h0
 exact ⟨b, off, rfl, hc.below hb⟩
end
section
open Go.RowKit
theorem gfunc_any (f:Fu) (vp vb:Value) (w:World) (hf:smallF f) (hp:Strs w vp f.params) (hb:Stmts w vb f.body) :
  Calls Tryz.prog 88 #[.agg #[.string f.name,vp,vb]] w fun e w'=>e = .returned (.bool (funcB f))/\Below w.heap.size w w':=by
 obtain ⟨name,ps,ss⟩:=f
 simp only at hp hb ⊢
 have HP:Hid (Strs w vp ps):=hp
 have HS:Hid (Stmts w vb ss):=hb
 have HF:Hid (ps.length<=1048576/\ss.length<=1048576/\∀s∈ss,smallS s):=hf
 have hpl:ps.length<=1048576:=HF.out.1
 have hsl:ss.length<=1048576:=HF.out.2.1
 obtain ⟨ap,cp,rfl,-,-,hpc⟩:=hp
 obtain ⟨ab,cb,rfl,-,-,hbc⟩:=hb
 have HPC:Hid (0<ps.length->∃b off,ap=some ⟨b,off,none⟩/\StrsC w b off ps):=hpc
 have HBC:Hid (0<ss.length->∃b off,ab=some ⟨b,off,none⟩/\StmtsC w b off ss):=hbc
 clear hpc hbc hf
 go_enter Tryz.func88,Tryz.ntmps88
 go_wp2_with fail
 refine (name_any _ _).mono ?_
 rintro e w1 ⟨rfl,rfl⟩
 have hb1:Below (w.heap.size+1) (w.alloc (.cells #[.string name,.slice ap ps.length cp,.slice ab ss.length cb] 86)) (w.alloc (.cells #[.string name,.slice ap ps.length cp,.slice ab ss.length cb] 86)):=Below.refl _ _
 have hB1:=one_below hb1
 obtain ⟨x0,x1,x2⟩:=box3 hb1
 cases hn:nameB name
 ·go_wp2_with fail
  go_ret
  exact ⟨ret_bool (by simp only [funcB,hn,Bool.false_and]),hB1⟩
 by_cases h6:6<ps.length
 ·go_wp2_with fail
  go_ret
  exact ⟨ret_bool (by simp only [funcB,hn,decide_eq_false (show ¬ps.length<=6 by omega),Bool.false_and,Bool.and_false]),hB1⟩
 by_cases h5:500<ss.length
 ·go_wp2_with fail
  go_ret
  exact ⟨ret_bool (by simp only [funcB,hn,decide_eq_false (show ¬ss.length<=500 by omega),Bool.false_and,Bool.and_false]),hB1⟩
 have HFB:Hid (funcB ⟨name,ps,ss⟩=(ps.all nameB && (stmtsB gstmtB ss && fitB ss))):=by
  show _=_
  rw [gstmts_fit]
  simp only [funcB,hn,decide_eq_true (show ps.length<=6 by omega),decide_eq_true (show ss.length<=500 by omega),Bool.true_and]
 go_wp2_with fail
 clear x0 x1 x2
 go_loopw [3] (fun i wr=>∃k:Nat,k<=ps.length/\i = .int .i64 k/\(∀s∈ps.take k,nameB s=true)/\Below (w.heap.size+1) (w.alloc (.cells #[.string name,.slice ap ps.length cp,.slice ab ss.length cb] 86)) wr) (fun i _=>ps.length-(RowKit.intOf i).toNat)
 case atStart=>exact ⟨0,Nat.zero_le _,rfl,by simp,hb1⟩
 case round=>
  obtain ⟨k,hk,rfl,hg,hB⟩:=hrel
  have HG:Hid (∀s∈ps.take k,nameB s=true):=hg
  clear hg hb1 hB1
  have hBw:=one_below hB
  by_cases hlt:k<ps.length
  ·obtain ⟨b,off,rfl,hc⟩:=HPC.out (by omega)
   have d0:=(hc.below hBw) k hlt
   have HE:Hid (ps.take (k+1)=ps.take k++[ps[k]]):=take_succ ps k hlt
   have HX:Hid (nameB ps[k]=false->ps.all nameB=false):=all_bad hlt
   clear hc
   generalize ps[k]=s at d0 HE HX
   obtain ⟨x0,x1,x2⟩:=box3 hB
   have hB2:=hB
   cases hv:nameB s
   ·go_wp2_with (go_at_call 87;refine (name_any _ _).mono ?_;rintro e w' ⟨rfl,rfl⟩;rw [hv])
    go_ret
    exact ⟨ret_bool (by rw [HFB.out,HX.out hv];rfl),one_below hB2⟩
   ·go_wp2_with (go_at_call 87;refine (name_any _ _).mono ?_;rintro e w' ⟨rfl,rfl⟩;rw [hv])
    go_roundw
    case rel=>
     refine ⟨k+1,by omega,by go_num,fun m hm => ?_,hB2⟩
     rw [HE.out] at hm
     rcases List.mem_append.1 hm with hm | hm
     ·exact HG.out m hm
     ·rw [List.mem_singleton.1 hm];exact hv
    case measure=>simp [RowKit.intOf];omega
  ·have HA:Hid (ps.all nameB=true):=by
    show _=_
    rw [List.all_eq_true]
    have:=HG.out
    rw [List.take_of_length_le (by omega)] at this
    exact this
   clear HG HPC
   obtain ⟨x0,x1,x2⟩:=box3 hB
   go_wp2_with fail
   clear x0 x1 x2
   go_loopw [4,5] (fun q i wr=>∃k:Nat,k<=ss.length/\i = .int .i64 k/\q = .int .i64 (nodeSum (ss.take k):Nat)/\nodeSum (ss.take k)<=2000/\(∀s∈ss.take k,gstmtB s=true)/\Below (w.heap.size+1) (w.alloc (.cells #[.string name,.slice ap ps.length cp,.slice ab ss.length cb] 86)) wr) (fun _ i _=>ss.length-(RowKit.intOf i).toNat)
   case atStart=>exact ⟨0,Nat.zero_le _,rfl,rfl,by simp [nodeSum],by simp,hB⟩
   case round=>
    clear hB hBw hlt
    obtain ⟨k,hk,rfl,rfl,hq,hg,hB⟩:=hrel
    have HG:Hid (∀s∈ss.take k,gstmtB s=true):=hg
    clear hg
    have hBw:=one_below hB
    by_cases hlt:k<ss.length
    ·obtain ⟨b,off,rfl,hc⟩:=HBC.out (by omega)
     obtain ⟨ve,vf,⟨c0,c1,c2,c3,c4,c5⟩,he,hf⟩:=(hc.below hBw) k hlt
     have HE:Hid (ss.take (k+1)=ss.take k++[ss[k]]):=take_succ ss k hlt
     have HX:Hid (gstmtB ss[k]=false->stmtsB gstmtB ss=false):=stmtsB_bad hlt
     have HQ:Hid _:=nodeSum_step ss k hlt
     have HY:Hid (2000<nodeSum (ss.take (k+1))->stmtsB gstmtB ss=false):=stmtsB_sum
     have hsm:=HF.out.2.2 ss[k] (List.getElem_mem hlt)
     clear hc
     generalize ss[k]=s at c0 c1 c2 c3 c4 c5 he hf HE HX HQ hsm
     generalize nodeSum (ss.take k)=q at hq HQ
     have HNE:Hid (Nodes wr ve s.e):=he
     have HNF:Hid (Nodes wr vf s.f):=hf
     obtain ⟨a2,k2,rfl,-,-,-⟩:=he
     obtain ⟨a3,k3,rfl,-,-,-⟩:=hf
     have hs1:=hsm.1
     have hs2:=hsm.2
     clear hsm
     obtain ⟨x0,x1,x2⟩:=box3 hB
     go_wp2_with fail
     go_quiet (fail)
     have hBq:Below (w.heap.size+1) (w.alloc (.cells #[.string name,.slice ap ps.length cp,.slice (some ⟨b,off,none⟩) ss.length cb] 86)) (wr.drewN nq):=below_drewN hB nq
     have hBwq:=one_below hBq
     have hBy:Bl wr (wr.drewN nq):=below_drewN (Below.refl _ _) nq
     by_cases hs:2000<q+s.e.length+s.f.length
     ·go_wp2_with fail
      go_ret
      exact ⟨ret_bool (by rw [HFB.out,HY.out (by rw [HQ.out];omega)];simp),hBwq⟩
     ·go_wp2_with fail
      refine (gstmt_any s _ _ _ (by omega) (by omega) (HNE.out.below hBy) (HNF.out.below hBy)).mono ?_
      rintro e w2 ⟨rfl,hb2⟩
      have hB2:=hBq.trans (hb2.mono (by have:=hBq.size;simp at this;simp;omega))
      clear c0 c1 c2 c3 c4 c5 hb2
      cases hv:gstmtB s
      ·go_wp2_with fail
       go_ret
       exact ⟨ret_bool (by rw [HFB.out,HX.out hv];simp),one_below hB2⟩
      ·go_wp2_with fail
       go_roundw
       case rel=>
        refine ⟨k+1,by omega,by go_num,?_,by rw [HQ.out];omega,fun m hm => ?_,hB2⟩
        ·rw [HQ.out];congr 1
        ·rw [HE.out] at hm
         rcases List.mem_append.1 hm with hm | hm
         ·exact HG.out m hm
         ·rw [List.mem_singleton.1 hm];exact hv
       case measure=>simp [RowKit.intOf];omega
    ·have HA2:Hid (stmtsB gstmtB ss=true):=by
      show _=_
      have h1:=HG.out
      rw [List.take_of_length_le (by omega)] at h1 hq
      exact stmtsB_ok hq h1
     have HNN:Hid (nonneg ss):=by
      have h1:=HG.out
      rw [List.take_of_length_le (by omega)] at h1
      exact gstmts_nonneg h1
     obtain ⟨x0,x1,x2⟩:=box3 hB
     go_wp2_with fail
     refine (shaped_any ss.length _ ss _ (Nat.le_refl _) hsl HNN.out (HS.out.below hBw)).mono ?_
     rintro e w2 ⟨rfl,hb2⟩
     clear x0 x1 x2
     go_wp2_with fail
     go_ret
     exact ⟨ret_bool (by rw [HFB.out,HA.out,HA2.out];rfl),hBw.trans (hb2.mono hBw.size)⟩
end
section
open Go.RowKit
def GlobsC (w : World) (b off : Nat) (gs : List Gl) : Prop := ∀ j (h : j < gs.length), w.cell? ⟨b, off + j * 2, none⟩ = some (.string gs[j].name) ∧ w.cell? ⟨b, off + j * 2 + 1, none⟩ = some (.int .i64 gs[j].size)
theorem GlobsC.below {w w' : World} {b off : Nat} {gs : List Gl} (h : GlobsC w b off gs) (hb : Below w.heap.size w w') : GlobsC w' b off gs := by
 intro j hj
 obtain ⟨c0, c1⟩ := h j hj
 have hlt := World.block_lt_of_cell? _ _ c0
 exact ⟨(hb.cell (p := ⟨b, off + j * 2, none⟩) hlt).trans c0, (hb.cell (p := ⟨b, off + j * 2 + 1, none⟩) hlt).trans c1⟩
def Globs (w : World) (v : Value) (gs : List Gl) : Prop := ∃ a cap, v = .slice a gs.length cap ∧ gs.length ≤ cap ∧ cap ≤ 9223372036854775807 ∧ (0 < gs.length → ∃ b off, a = some ⟨b, off, none⟩ ∧ GlobsC w b off gs)
theorem Globs.below {w w' : World} {v : Value} {gs : List Gl} (h : Globs w v gs) (hb : Below w.heap.size w w') : Globs w' v gs := by
 obtain ⟨a, cap, rfl, hl, hm, h⟩ := h
 refine ⟨a, cap, rfl, hl, hm, fun h0 => ?_⟩
 obtain ⟨b, off, rfl, hc⟩ := h h0
 exact ⟨b, off, rfl, hc.below hb⟩
def FuncsC (w : World) (b off : Nat) (fs : List Fu) : Prop := ∀ j (h : j < fs.length), ∃ vp vb, (w.cell? ⟨b, off + j * 3, none⟩ = some (.string fs[j].name) ∧ w.cell? ⟨b, off + j * 3 + 1, none⟩ = some vp ∧ w.cell? ⟨b, off + j * 3 + 2, none⟩ = some vb) ∧ Strs w vp fs[j].params ∧ Stmts w vb fs[j].body
theorem FuncsC.below {w w' : World} {b off : Nat} {fs : List Fu} (h : FuncsC w b off fs) (hb : Below w.heap.size w w') : FuncsC w' b off fs := by
 intro j hj
 obtain ⟨vp, vb, ⟨c0, c1, c2⟩, hp, hs⟩ := h j hj
 have hlt := World.block_lt_of_cell? _ _ c0
 exact ⟨vp, vb, ⟨(hb.cell (p := ⟨b, off + j * 3, none⟩) hlt).trans c0, (hb.cell (p := ⟨b, off + j * 3 + 1, none⟩) hlt).trans c1, (hb.cell (p := ⟨b, off + j * 3 + 2, none⟩) hlt).trans c2⟩, hp.below hb, hs.below hb⟩
def Funcs (w : World) (v : Value) (fs : List Fu) : Prop := ∃ a cap, v = .slice a fs.length cap ∧ fs.length ≤ cap ∧ cap ≤ 9223372036854775807 ∧ (0 < fs.length → ∃ b off, a = some ⟨b, off, none⟩ ∧ FuncsC w b off fs)
theorem Funcs.below {w w' : World} {v : Value} {fs : List Fu} (h : Funcs w v fs) (hb : Below w.heap.size w w') : Funcs w' v fs := by
 obtain ⟨a, cap, rfl, hl, hm, h⟩ := h
 refine ⟨a, cap, rfl, hl, hm, fun h0 => ?_⟩
 obtain ⟨b, off, rfl, hc⟩ := h h0
 exact ⟨b, off, rfl, hc.below hb⟩
theorem box2 {w w' : World} {t : TypeId} {x y : Value} (h : Below (w.heap.size + 1) (w.alloc (.cells #[x, y] t)) w') :
  w'.cell? ⟨w.heap.size, 0, none⟩ = some x ∧ w'.cell? ⟨w.heap.size, 1, none⟩ = some y := by
 refine ⟨?_, ?_⟩ <;> (rw [h.cell (by simp)]; simp)
end
section
open Go.RowKit
theorem info_str:(Tryz.prog.info? 9).map (fun i=>(i.zero,i.size,i.bytes))=some (some (.string ⟨#[]⟩),1,16):=by kernel_rfl
def SSrc (w:World) (v:Value) (us:List ByteArray):Prop:=∃a cap,v = .slice a us.length cap/\(a=none->us = [])/\∀ad,a=some ad->∀j u,(us.map Value.string)[j]? = some u->w.cell? (ad.add j)=some u
theorem addr_addK (b o j:Nat):(⟨b,o,none⟩:Addr).add j=⟨b,o+j,none⟩:=by simp only [Addr.add];split <;> simp_all
theorem Strs.src {w:World} {v:Value} {us:List ByteArray} (h:Strs w v us):SSrc w v us:=by
 obtain ⟨a,cap,rfl,-,-,h⟩:=h
 by_cases hp:0<us.length
 ·obtain ⟨b,off,rfl,hc⟩:=h hp
  refine ⟨_,cap,rfl,(fun h=>by cases h),fun ad had j u hj => ?_⟩
  obtain rfl:=Option.some.inj had
  have hl:j<us.length:=by
   have:=(List.getElem?_eq_some_iff.1 hj).1
   simpa using this
  have e:u = .string us[j]:=by simpa [hl] using hj.symm
  rw [addr_addK,e]
  exact hc j hl
 ·have h0:us = []:=List.eq_nil_of_length_eq_zero (by omega)
  subst h0
  exact ⟨a,cap,rfl,fun _=>rfl,fun ad _ j u hj=>by simp at hj⟩
theorem ssrc_1 (w:World) (x:ByteArray) (t:TypeId):SSrc (w.alloc (.cells #[.string x] t)) (.slice (some ⟨w.heap.size,0,none⟩) 1 1) [x]:=by
 refine ⟨_,1,rfl,(fun h=>by cases h),fun ad h j u hj => ?_⟩
 obtain rfl:=Option.some.inj h
 have hl:j=0:=by
  have:=(List.getElem?_eq_some_iff.1 hj).1
  simp at this
  omega
 subst hl
 simp at hj
 rw [addr_addK,<-hj]
 simp
def SRow (B:Nat) (w:World) (v:Value) (us:List ByteArray):Prop:=w.ownsRow B 9 1 v us.length (us.map (Value.string))
theorem SRow.shape {B:Nat} {w:World} {v:Value} {us:List ByteArray} (h:SRow B w v us) : ∃a c,v = .slice a us.length c:=by
 rcases h.2 with ⟨rfl,hz⟩ | ⟨g,cap,cur,rfl,_⟩
 ·exact ⟨none,0,by rw [hz]⟩
 ·exact ⟨_,cap,rfl⟩
theorem SRow.below {B:Nat} {w w':World} {v:Value} {us:List ByteArray} (h:SRow B w v us) (hb:Below w.heap.size w w'):SRow B w' v us:=by
 obtain ⟨g1,g2⟩:=h
 refine ⟨g1,?_⟩
 rcases g2 with g2 | ⟨g,cap,cur,rfl,g3,g4,g5⟩
 ·exact .inl g2
 ·refine .inr ⟨g,cap,cur,rfl,g3,?_,g5⟩
  rw [hb.block g (Array.getElem?_eq_some_iff.1 g4).1]
  exact g4
theorem SRow.base {B B':Nat} {w:World} {v:Value} {us:List ByteArray} (h:SRow B w v us) (hb:B'<=B):SRow B' w v us:=by
 obtain ⟨g1,g2⟩:=h
 refine ⟨g1,?_⟩
 rcases g2 with g2 | ⟨g,cap,cur,rfl,g3,g4⟩
 ·exact .inl g2
 ·exact .inr ⟨g,cap,cur,rfl,Nat.le_trans hb g3,g4⟩
theorem srow_lit (W:World) (B:Nat) (hB:B<=W.heap.size):SRow B (W.alloc (.cells #[] 9)) (.slice (some ⟨W.heap.size,0,none⟩) 0 0) []:=World.ownsRow_lit W #[] 0 hB (by decide) rfl
theorem run_appS {w:World} (base:Nat) (ty:TypeId) (v:Value) (xs:List ByteArray) (hown:SRow base w v xs) (x:Value) (us:List ByteArray) (hx:SSrc w x us) (hm:xs.length+us.length<=10000000) (hbase:base<=w.heap.size) :
  ∃v' w',(Builtin.append_ #[73,73] ty #[v,x]).run Tryz.prog w = .ok v' w'/\SRow base w' v' (xs++us)/\w.grownBy w' v.ownBlock/\∀k,v'.ownBlock=some k->v.ownBlock=some k∨w.heap.size<=k:=by
 obtain ⟨i0,hi,hz0,hz1,hz2⟩:=info_parts info_str
 obtain ⟨a,cap,rfl,h2,h3⟩:=hx
 cases a with
 | none=>
  obtain rfl:=h2 rfl
  have hr:(Builtin.append_ #[73,73] ty #[v,.slice none ([]:List ByteArray).length cap]).run Tryz.prog w = .ok v w:=by
   rcases hown.2 with ⟨rfl,hn⟩ | ⟨g,cap',cur,rfl,_,_,hnc,_⟩
   ·simp [Builtin.append_,run_underlying Tryz.underlying73,sizeOf,typeInfo,hi,Builtin.lenOf,Builtin.firstCells]
   ·simp [Builtin.append_,run_underlying Tryz.underlying73,sizeOf,typeInfo,hi,Builtin.lenOf,Builtin.firstCells,hnc,storeCells]
  exact ⟨v,w,hr,by simpa using hown,⟨rfl,rfl,rfl,Nat.le_refl _,fun _ _ _=>rfl⟩,fun k hk=>.inl hk⟩
 | some ad=>
  obtain ⟨v',w',r1,r2,r3,r4⟩:=app_freshG (P:=Tryz.prog) (w:=w) base 73 ty 9 i0 _ 1 16 Tryz.underlying73 hi hz0 hz1 hz2 rfl (by decide) v xs.length (xs.map (Value.string)) hown ad us.length cap (us.map (Value.string)) (by simp) (h3 ad rfl) (by intro u hu;simp at hu;obtain ⟨y,_,rfl⟩:=hu;rfl) hm (by decide) hbase
  refine ⟨v',w',r1,?_,r3,r4⟩
  unfold SRow
  rw [l_a,List.map_append]
  exact r2
theorem step_appS {w:World} {ops:Array Oper} {o:Oper} {a:Act} {K:Act->World->Prop} {Q:Exit->Act->World->Prop} {E:Prop} (hgd:o.guard=none) (s x:Operand)
  (ho:o.op = .call {callee:=.builtin .append,args:=#[s,x],argTypes:=#[73,73]})
  (base:Nat) (v:Value) (xs:List ByteArray) (hs:a.eval s=v) (hown:SRow base w v xs) (xv:Value) (us:List ByteArray) (hxv:a.eval x=xv) (hx:SSrc w xv us)
  (hm:xs.length+us.length<=10000000) (hbase:base<=w.heap.size)
  (h : ∀v' w',SRow base w' v' (xs++us)->w.grownBy w' v.ownBlock->(∀k,v'.ownBlock=some k->v.ownBlock=some k∨w.heap.size<=k)->K (a.put o.dst v') w') :
  if Region.wanted o (yielded ops a.tmps)=true then Oper.wp Tryz.prog o a w K Q else E:=by
 have hw:Region.wanted o (yielded ops a.tmps)=true:=by simp [Region.wanted,hgd]
 rw [if_pos hw]
 obtain ⟨v',w',hr,h2,h3,h4⟩:=run_appS (w:=w) base o.type v xs hown xv us hx hm hbase
 unfold Oper.wp execOp
 simp only [ho,resolve,invoke,builtin,Sem.run_bind,Sem.run_pure,Result.andThen_ok,List.map_toArray,List.map_cons,List.map_nil,hs,hxv,hr]
 exact h v' w' h2 h3 h4
theorem SRow.strs {B:Nat} {w:World} {v:Value} {us:List ByteArray} (h:SRow B w v us) (hm:us.length<=10000000):Strs w v us:=by
 have h0:=h
 rcases h.2 with ⟨rfl,hz⟩ | ⟨g,cap,cur,rfl,hbg,hh,hc1,hc2,hc3,hc4⟩
 ·exact ⟨none,0,by rw [hz],by omega,by omega,fun h=>absurd h (by omega)⟩
 ·refine ⟨_,cap,rfl,?_,?_,fun _=>⟨g,0,rfl,fun j hj => ?_⟩⟩
  ·first | omega | exact hc1
  ·first | omega | (unfold maxLen at *;omega)
  ·have:=World.ownsRow.cells h0 (g:=g) rfl j (.string us[j]) (by simp [hj])
   rw [addr_addK] at this
   exact this
end
section
open Go.RowKit
theorem gtree_any (t:Tr) (vg vf:Value) (w:World) (ht:smallT t) (hg:Globs w vg t.globals) (hf:Funcs w vf t.funcs) :
  Calls Tryz.prog 75 #[.agg #[vg,vf]] w fun e w'=>e = .returned (.bool (treeB t))/\Below w.heap.size w w':=by
 obtain ⟨gs,fs⟩:=t
 simp only at hg hf ⊢
 have HS:=hide ht
 have hgl:gs.length<=1048576:=HS.out.1
 have hfl:fs.length<=1048576:=HS.out.2.1
 obtain ⟨ag,cg,rfl,-,-,hgc⟩:=hg
 obtain ⟨af,cf,rfl,-,-,hfc⟩:=hf
 have HGC:=hide hgc
 have HFC:=hide hfc
 clear hgc hfc ht
 by_cases h5:50<gs.length
 ·go_enter Tryz.func75,Tryz.ntmps75
  go_wp2_with fail
  go_ret
  exact ⟨ret_bool (by simp only [treeB,decide_eq_false (show ¬gs.length<=50 by omega),Bool.false_and]),(Below.refl _ _).alloc (Nat.le_refl _) _⟩
 by_cases h6:50<fs.length
 ·go_enter Tryz.func75,Tryz.ntmps75
  go_wp2_with fail
  go_ret
  exact ⟨ret_bool (by simp only [treeB,decide_eq_false (show ¬fs.length<=50 by omega),Bool.false_and,Bool.and_false]),(Below.refl _ _).alloc (Nat.le_refl _) _⟩
 have HTB:Hid (treeB ⟨gs,fs⟩=(gs.all globB && fs.all funcB)):=by
  show _=_
  simp only [treeB,decide_eq_true (show gs.length<=50 by omega),decide_eq_true (show fs.length<=50 by omega),Bool.true_and]
 go_enter Tryz.func75,Tryz.ntmps75
 go_wp2_with fail
 go_loopw [3] (fun i wr=>∃k:Nat,k<=gs.length/\i = .int .i64 k/\(∀g∈gs.take k,globB g=true)/\Below (w.heap.size+1) (w.alloc (.cells #[.slice ag gs.length cg,.slice af fs.length cf] 44)) wr) (fun i _=>gs.length-(RowKit.intOf i).toNat)
 case atStart=>exact ⟨0,Nat.zero_le _,rfl,by simp,Below.refl _ _⟩
 case round=>
  obtain ⟨k,hk,rfl,hg,hB⟩:=hrel
  have HG:=hide hg
  clear hg
  have hBw:=one_below hB
  by_cases hlt:k<gs.length
  ·obtain ⟨b,off,rfl,hc⟩:=HGC.out (by omega)
   obtain ⟨d0,d1⟩:=(hc.below hBw) k hlt
   have HE:Hid (gs.take (k+1)=gs.take k++[gs[k]]):=take_succ gs k hlt
   have HX:Hid (globB gs[k]=false->gs.all globB=false):=allG_bad hlt
   clear hc
   generalize gs[k]=g at d0 d1 HE HX
   obtain ⟨x0,x1⟩:=box2 hB
   obtain ⟨s,z⟩:=g
   simp only at d0 d1
   cases hv:nameB s
   ·have hv2:globB ⟨s,z⟩=false:=by simp only [globB,hv,Bool.false_and]
    have HV:=hide hv2
    clear hv2
    go_wp2_with (go_at_call 87;refine (name_any _ _).mono ?_;rintro e w' ⟨rfl,rfl⟩;rw [hv])
    go_ret
    exact ⟨ret_bool (by rw [HTB.out,HX.out HV.out];rfl),hBw⟩
   cases hz:decide (0<=z/\z<=4000)
   ·have hv2:globB ⟨s,z⟩=false:=by simp only [globB,hv,hz,Bool.and_false]
    have HV:=hide hv2
    have HZ:=hide hz
    clear hv2 hz
    go_wp2_with (first | (go_at_call 87;refine (name_any _ _).mono ?_;rintro e w' ⟨rfl,rfl⟩;rw [hv]) | (go_at_call 20;refine (in_any _ _ _ _).mono ?_;rintro e w' ⟨rfl,rfl⟩;rw [HZ.out]))
    go_ret
    exact ⟨ret_bool (by rw [HTB.out,HX.out HV.out];rfl),hBw⟩
   ·have HV:Hid (globB ⟨s,z⟩=true):=by
     show _=_
     simp only [globB,hv,hz,Bool.and_self]
    have HZ:=hide hz
    clear hz
    go_wp2_with (first | (go_at_call 87;refine (name_any _ _).mono ?_;rintro e w' ⟨rfl,rfl⟩;rw [hv]) | (go_at_call 20;refine (in_any _ _ _ _).mono ?_;rintro e w' ⟨rfl,rfl⟩;rw [HZ.out]))
    go_roundw
    case rel=>
     refine ⟨k+1,by omega,by go_num,fun m hm => ?_,hB⟩
     rw [HE.out] at hm
     rcases List.mem_append.1 hm with hm | hm
     ·exact HG.out m hm
     ·rw [List.mem_singleton.1 hm];exact HV.out
    case measure=>simp [RowKit.intOf];omega
  ·have HA:Hid (gs.all globB=true):=by
    show _=_
    rw [List.all_eq_true]
    have:=HG.out
    rw [List.take_of_length_le (by omega)] at this
    exact this
   clear HG HGC
   obtain ⟨x0,x1⟩:=box2 hB
   go_wp2_with fail
   clear x0 x1
   go_loopw [4] (fun i wr=>∃k:Nat,k<=fs.length/\i = .int .i64 k/\(∀f∈fs.take k,funcB f=true)/\Below (w.heap.size+1) (w.alloc (.cells #[.slice ag gs.length cg,.slice af fs.length cf] 44)) wr) (fun i _=>fs.length-(RowKit.intOf i).toNat)
   case atStart=>exact ⟨0,Nat.zero_le _,rfl,by simp,hB⟩
   case round=>
    clear hB hBw hlt
    obtain ⟨k,hk,rfl,hg,hB⟩:=hrel
    have HG:=hide hg
    clear hg
    have hBw:=one_below hB
    by_cases hlt:k<fs.length
    ·obtain ⟨b,off,rfl,hc⟩:=HFC.out (by omega)
     obtain ⟨vp,vb,⟨d0,d1,d2⟩,hp,hs⟩:=(hc.below hBw) k hlt
     have HE:Hid (fs.take (k+1)=fs.take k++[fs[k]]):=take_succ fs k hlt
     have HX:Hid (funcB fs[k]=false->fs.all funcB=false):=allF_bad hlt
     have HSM:Hid (smallF fs[k]):=HS.out.2.2 fs[k] (List.getElem_mem hlt)
     clear hc
     generalize fs[k]=f at d0 d1 d2 HE HX HSM hp hs
     have HP:=hide hp
     have HB:=hide hs
     obtain ⟨a2,k2,rfl,-,-,-⟩:=hp
     obtain ⟨a3,k3,rfl,-,-,-⟩:=hs
     obtain ⟨x0,x1⟩:=box2 hB
     go_wp2_with fail
     refine (gfunc_any f _ _ _ HSM.out HP.out HB.out).mono ?_
     rintro e w2 ⟨rfl,hb2⟩
     have hBx2:=hb2
     clear x0 x1
     have hB2:=hB.trans (hBx2.mono (by have:=hB.size;simp at this;omega))
     clear d0 d1 d2 hb2
     cases hv:funcB f
     ·go_wp2_with fail
      go_ret
      exact ⟨ret_bool (by rw [HTB.out,HX.out hv];simp),one_below hB2⟩
     ·go_wp2_with fail
      go_roundw
      case rel=>
       refine ⟨k+1,by omega,by go_num,fun m hm => ?_,hB2⟩
       rw [HE.out] at hm
       rcases List.mem_append.1 hm with hm | hm
       ·exact HG.out m hm
       ·rw [List.mem_singleton.1 hm];exact hv
      case measure=>simp [RowKit.intOf];omega
    ·have HA2:Hid (fs.all funcB=true):=by
      show _=_
      rw [List.all_eq_true]
      have:=HG.out
      rw [List.take_of_length_le (by omega)] at this
      exact this
     obtain ⟨x0,x1⟩:=box2 hB
     go_wp2_with fail
     go_ret
     exact ⟨ret_bool (by rw [HTB.out,HA.out,HA2.out];rfl),hBw⟩
end
section
open Go.RowKit
structure FV where
 f : Fu
 vp : Value
 vb : Value
 R : List SV
 kp : List Nat
 kb : List Nat
def cellsF (q : FV) : List Value := [.string q.f.name, q.vp, q.vb]
def flatF (Q : List FV) : List Value := Q.flatMap cellsF
theorem flatF_len (Q : List FV) : (flatF Q).length = Q.length * 3 := by
 induction Q with
 | nil => rfl
 | cons a r ih =>
  have : (flatF (a :: r)).length = 3 + (flatF r).length := by simp [flatF, cellsF]; omega
  rw [this, ih, List.length_cons]
  omega
theorem flatF_append (a b : List FV) : flatF (a ++ b) = flatF a ++ flatF b := by simp [flatF]
theorem flatF_get : ∀ (Q : List FV) (j i : Nat) (hj : j < Q.length), i < 3 → (flatF Q)[j * 3 + i]? = (cellsF Q[j])[i]?
 | x :: l, 0, i, _, hi => by
  have : (cellsF x).length = 3 := rfl
  show (cellsF x ++ flatF l)[0 * 3 + i]? = _
  rw [List.getElem?_append_left (by omega)]
  simp
 | x :: l, j + 1, i, hj, hi => by
  have h7 : (cellsF x).length = 3 := rfl
  show (cellsF x ++ flatF l)[(j + 1) * 3 + i]? = _
  rw [List.getElem?_append_right (by omega)]
  have e : (j + 1) * 3 + i - (cellsF x).length = j * 3 + i := by omega
  rw [e, flatF_get l j i (by simpa using hj) hi]
  simp
theorem info_func : (Tryz.prog.info? 86).map (fun i => (i.zero, i.size, i.bytes)) = some (some (.agg #[.string ⟨#[]⟩, .slice none 0 0, .slice none 0 0]), 3, 64) := by kernel_rfl
end
section
open Go.RowKit
theorem ssrc_cell {w : World} {b : Nat} {x : ByteArray} (h : w.cell? ⟨b, 0, none⟩ = some (.string x)) : SSrc w (.slice (some ⟨b, 0, none⟩) 1 1) [x] := by
 refine ⟨_, 1, rfl, (fun h => by cases h), fun ad had j u hj => ?_⟩
 obtain rfl := Option.some.inj had
 have hl : j = 0 := by
  have := (List.getElem?_eq_some_iff.1 hj).1
  simp at this
  omega
 subst hl
 simp at hj
 rw [addr_addK, ← hj]
 exact h
theorem appA (W : World) (v : Value) (us : List ByteArray) (h : Strs W v us) : SRow W.heap.size (W.drew.alloc (.cells #[] 9)) (.slice (some ⟨W.heap.size, 0, none⟩) 0 0) [] ∧ SSrc (W.drew.alloc (.cells #[] 9)) v us ∧ Below W.heap.size W (W.drew.alloc (.cells #[] 9)) := by
 have hb : Below W.heap.size W (W.drew.alloc (.cells #[] 9)) := ((Below.refl W.heap.size W).drew).alloc (Nat.le_refl _) _
 exact ⟨srow_lit W.drew _ (Nat.le_refl _), (h.below hb).src, hb⟩
theorem appB (W : World) (v : Value) (us : List ByteArray) (x : ByteArray) (h : Strs W v us) : SRow W.heap.size ((W.drew.alloc (.cells #[] 9)).alloc (.cells #[.string x] 9)) (.slice (some ⟨W.heap.size, 0, none⟩) 0 0) [] ∧ SSrc ((W.drew.alloc (.cells #[] 9)).alloc (.cells #[.string x] 9)) v us ∧ Below W.heap.size W ((W.drew.alloc (.cells #[] 9)).alloc (.cells #[.string x] 9)) ∧ ((W.drew.alloc (.cells #[] 9)).alloc (.cells #[.string x] 9)).cell? ⟨W.heap.size + 1, 0, none⟩ = some (.string x) := by
 have hb1 : Below W.heap.size W (W.drew.alloc (.cells #[] 9)) := ((Below.refl W.heap.size W).drew).alloc (Nat.le_refl _) _
 have hb : Below W.heap.size W ((W.drew.alloc (.cells #[] 9)).alloc (.cells #[.string x] 9)) := hb1.alloc hb1.size _
 exact ⟨(srow_lit W.drew _ (Nat.le_refl _)).below ((Below.refl _ _).alloc (Nat.le_refl _) _), (h.below hb).src, hb, (World.cell?_alloc_at _ _ _ _ (by simp)).trans rfl⟩
theorem appC (W : World) (v : Value) (us : List ByteArray) (x : ByteArray) (h : Strs W v us) : SRow W.heap.size ((W.drew.alloc (.cells #[.string x] 9)).alloc (.cells #[] 9)) (.slice (some ⟨W.heap.size + 1, 0, none⟩) 0 0) [] ∧ SSrc ((W.drew.alloc (.cells #[.string x] 9)).alloc (.cells #[] 9)) v us ∧ Below W.heap.size W ((W.drew.alloc (.cells #[.string x] 9)).alloc (.cells #[] 9)) ∧ ((W.drew.alloc (.cells #[.string x] 9)).alloc (.cells #[] 9)).cell? ⟨W.heap.size, 0, none⟩ = some (.string x) := by
 have hb1 : Below W.heap.size W (W.drew.alloc (.cells #[.string x] 9)) := ((Below.refl W.heap.size W).drew).alloc (Nat.le_refl _) _
 have hb : Below W.heap.size W ((W.drew.alloc (.cells #[.string x] 9)).alloc (.cells #[] 9)) := hb1.alloc hb1.size _
 have h1 := srow_lit (W.drew.alloc (.cells #[.string x] 9)) W.heap.size (by simp)
 have e : (W.drew.alloc (.cells #[.string x] 9)).heap.size = W.heap.size + 1 := by simp
 rw [e] at h1
 refine ⟨h1, (h.below hb).src, hb, ?_⟩
 rw [World.cell?_alloc_lt _ _ ⟨W.heap.size, 0, none⟩ (by simp)]
 exact (World.cell?_alloc_at _ _ _ _ (by simp)).trans rfl
theorem appN {W W1 w1 : World} {v : Value} {xs : List ByteArray} (hb : Below W.heap.size W W1) (hr : SRow W.heap.size W1 v xs) (hg : W1.grownBy w1 v.ownBlock) : Below W.heap.size W w1 := hb.grown hg hb.size (fun j hj => (World.ownsRow.lt hr j hj).1)
end
end Go.Proofs.YtpdndlghjldhjaaGreat
