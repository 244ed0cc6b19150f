import Derived.Test.YtpdndlghjldhjaaGreatM01
import Derived.WalkKit
import Derived.WalkSpells
import Derived.Below
import Derived.Laws.OwnMore
import Derived.Test.YtpdndlghjldhjaaGreatProg
import Derived.RegionTactic
import Derived.Test.YtpdndlghjldhjaaGreatRows
namespace Go.Proofs.YtpdndlghjldhjaaGreat
set_option linter.unusedVariables false
set_option linter.unusedSimpArgs false
set_option maxRecDepth 100000
set_option maxHeartbeats 16000000
section
open Go.RowKit
structure Tg (g:Nat) (w w':World):Prop where
 still:w'.os=w.os/\w'.tape=w.tape/\w'.output=w.output
 size:w'.heap.size=w.heap.size
 other : ∀b,b≠g->w'.heap[b]? = w.heap[b]?
theorem Tg.refl (g:Nat) (w:World):Tg g w w:=⟨⟨rfl,rfl,rfl⟩,rfl,fun _ _=>rfl⟩
theorem Tg.trans {g:Nat} {w w1 w2:World} (h:Tg g w w1) (k:Tg g w1 w2):Tg g w w2:=⟨⟨k.still.1.trans h.still.1,k.still.2.1.trans h.still.2.1,k.still.2.2.trans h.still.2.2⟩,k.size.trans h.size,fun b hb=>(k.other b hb).trans (h.other b hb)⟩
theorem Tg.set {g:Nat} {w w':World} (h:Tg g w w') (o:Nat) (v:Value):Tg g w (w'.setCell ⟨g,o,none⟩ v):=by
 have hb0:=(Below.refl 0 w').setCell (p:=⟨g,o,none⟩) (Nat.zero_le _) v
 refine ⟨⟨hb0.os.trans h.still.1,hb0.tape.trans h.still.2.1,hb0.output.trans h.still.2.2⟩,by simpa using h.size,fun b hb => ?_⟩
 rw [<-h.other b hb]
 exact Below.heap_setCell _ _ _ b (fun h=>hb (by simpa using h))
theorem Tg.below {B g:Nat} {w w':World} (h:Tg g w w') (hg:B<=g):Below B w w':=
 ⟨h.still.1,h.still.2.1,h.still.2.2,Nat.le_of_eq h.size.symm,fun k hk=>h.other k (by omega)⟩
theorem Tg.cell {g:Nat} {w w':World} (h:Tg g w w') {b o:Nat} (hb:b≠g):w'.cell? ⟨b,o,none⟩=w.cell? ⟨b,o,none⟩:=World.cell?_of_block (a:=⟨b,o,none⟩) (h.other b hb)
def pcs (it:It) (a:Int) (v:Value) (l:Bool):List Value:=[.int .i64 it.kind,.int .i64 it.ins.op,.int .i64 it.ins.rd,.int .i64 it.ins.s1,.int .i64 it.ins.s2,.int .i64 it.ins.im,.int .i64 it.label,.int .i64 a,v,.bool l]
def PRow (w:World) (g n:Nat) (its:List It) (A:Nat->Int) (G:Nat->Value) (L:Nat->Bool):Prop:=∀i,i<n->∀k,k<10->w.cell? ⟨g,i*10+k,none⟩=(pcs (its.getD i it0) (A i) (G i) (L i))[k]? /\ w.frozen? ⟨g,i*10+k,none⟩=false
theorem PRow.below {w w':World} {g n:Nat} {its:List It} {A:Nat->Int} {G:Nat->Value} {L:Nat->Bool} (h:PRow w g n its A G L) (hg:g<w.heap.size) (hb:Below w.heap.size w w'):PRow w' g n its A G L:=by
 intro i hi k hk
 obtain ⟨h1,h2⟩:=h i hi k hk
 exact ⟨(hb.cell (p:=⟨g,i*10+k,none⟩) hg).trans h1,(hb.frozen (p:=⟨g,i*10+k,none⟩) hg).trans h2⟩
def upd {α:Type} (f:Nat->α) (i:Nat) (x:α):Nat->α:=fun j=>if j=i then x else f j
theorem upd_same {α:Type} (f:Nat->α) (i:Nat) (x:α):upd f i x i=x:=if_pos rfl
theorem upd_other {α:Type} (f:Nat->α) (i j:Nat) (x:α) (h:j≠i):upd f i x j=f j:=if_neg h
theorem PRow.store {w:World} {g n:Nat} {its:List It} {A A':Nat->Int} {G G':Nat->Value} {L L':Nat->Bool} (h:PRow w g n its A G L) (i c:Nat) (hi:i<n) (hc:c<10) (u:Value)
  (ho : ∀j,j≠i->A' j=A j/\G' j=G j/\L' j=L j) (hs : ∀k,k<10->(pcs (its.getD i it0) (A' i) (G' i) (L' i))[k]? = if k=c then some u else (pcs (its.getD i it0) (A i) (G i) (L i))[k]?) :
  PRow (w.setCell ⟨g,i*10+c,none⟩ u) g n its A' G' L':=by
 intro j hj k hk
 obtain ⟨h1,h2⟩:=h j hj k hk
 refine ⟨?_,(World.frozen?_setCell _ _ _ _).trans h2⟩
 by_cases e:j=i
 ·subst e
  rw [hs k hk]
  by_cases ek:k=c
  ·subst ek
   rw [if_pos rfl]
   have hl:(pcs (its.getD j it0) (A j) (G j) (L j)).length=10:=rfl
   rw [List.getElem?_eq_getElem (by omega)] at h1
   exact World.cell?_setCell_same _ _ _ h1
  ·rw [if_neg ek,World.cell?_setCell_other _ _ _ _ (by intro h;simp only [Addr.mk.injEq] at h;omega)]
   exact h1
 ·obtain ⟨e1,e2,e3⟩:=ho j e
  rw [e1,e2,e3,World.cell?_setCell_other _ _ _ _ (by intro h;simp only [Addr.mk.injEq] at h;omega)]
  exact h1
theorem PRow.at {w:World} {g n:Nat} {its:List It} {A:Nat->Int} {G:Nat->Value} {L:Nat->Bool} (h:PRow w g n its A G L) (i:Nat) (hi:i<n) (x:Int):PRow (w.setCell ⟨g,i*10+7,none⟩ (.int .i64 x)) g n its (upd A i x) G L:=by
 refine h.store i 7 hi (by omega) _ (fun j hj=>⟨upd_other _ _ _ _ hj,rfl,rfl⟩) (fun k hk => ?_)
 rw [upd_same]
 match k,hk with
 | 0,_ | 1,_ | 2,_ | 3,_ | 4,_ | 5,_ | 6,_ | 7,_ | 8,_ | 9,_=>rfl
theorem PRow.goal {w:World} {g n:Nat} {its:List It} {A:Nat->Int} {G:Nat->Value} {L:Nat->Bool} (h:PRow w g n its A G L) (i:Nat) (hi:i<n) (x:Value):PRow (w.setCell ⟨g,i*10+8,none⟩ x) g n its A (upd G i x) L:=by
 refine h.store i 8 hi (by omega) _ (fun j hj=>⟨rfl,upd_other _ _ _ _ hj,rfl⟩) (fun k hk => ?_)
 rw [upd_same]
 match k,hk with
 | 0,_ | 1,_ | 2,_ | 3,_ | 4,_ | 5,_ | 6,_ | 7,_ | 8,_ | 9,_=>rfl
theorem PRow.long {w:World} {g n:Nat} {its:List It} {A:Nat->Int} {G:Nat->Value} {L:Nat->Bool} (h:PRow w g n its A G L) (i:Nat) (hi:i<n) (x:Bool):PRow (w.setCell ⟨g,i*10+9,none⟩ (.bool x)) g n its A G (upd L i x):=by
 refine h.store i 9 hi (by omega) _ (fun j hj=>⟨rfl,rfl,upd_other _ _ _ _ hj⟩) (fun k hk => ?_)
 rw [upd_same]
 match k,hk with
 | 0,_ | 1,_ | 2,_ | 3,_ | 4,_ | 5,_ | 6,_ | 7,_ | 8,_ | 9,_=>rfl
structure Pc (w:World) (b o:Nat) (it:It) (a:Int) (v:Value) (l:Bool):Prop where
 c0:w.cell? ⟨b,o,none⟩=some (.int .i64 it.kind)
 c1:w.cell? ⟨b,o+1,none⟩=some (.int .i64 it.ins.op)
 c2:w.cell? ⟨b,o+2,none⟩=some (.int .i64 it.ins.rd)
 c3:w.cell? ⟨b,o+3,none⟩=some (.int .i64 it.ins.s1)
 c4:w.cell? ⟨b,o+4,none⟩=some (.int .i64 it.ins.s2)
 c5:w.cell? ⟨b,o+5,none⟩=some (.int .i64 it.ins.im)
 c6:w.cell? ⟨b,o+6,none⟩=some (.int .i64 it.label)
 c7:w.cell? ⟨b,o+7,none⟩=some (.int .i64 a)
 c8:w.cell? ⟨b,o+8,none⟩=some v
 c9:w.cell? ⟨b,o+9,none⟩=some (.bool l)
theorem PRow.pc {w:World} {g n:Nat} {its:List It} {A:Nat->Int} {G:Nat->Value} {L:Nat->Bool} (h:PRow w g n its A G L) (i:Nat) (hi:i<n):Pc w g (i*10) (its.getD i it0) (A i) (G i) (L i):=
 ⟨(h i hi 0 (by omega)).1,(h i hi 1 (by omega)).1,(h i hi 2 (by omega)).1,(h i hi 3 (by omega)).1,(h i hi 4 (by omega)).1,(h i hi 5 (by omega)).1,(h i hi 6 (by omega)).1,(h i hi 7 (by omega)).1,(h i hi 8 (by omega)).1,(h i hi 9 (by omega)).1⟩
theorem PRow.free {w:World} {g n:Nat} {its:List It} {A:Nat->Int} {G:Nat->Value} {L:Nat->Bool} (h:PRow w g n its A G L) (i:Nat) (hi:i<n) (k:Nat) (hk:k<10):w.frozen? ⟨g,i*10+k,none⟩=false:=(h i hi k hk).2
theorem words_any (b o:Nat) (it:It) (a:Int) (v:Value) (l:Bool) (w:World) (h:Pc w b o it a v l) :
  Calls Tryz.prog 60 #[.pointer (some ⟨b,o,none⟩)] w fun e w'=>e = .returned (.int .i64 ((szB it l:Nat):Int))/\w'=w:=by
 have c0:=h.c0
 have c9:=h.c9
 clear h
 obtain ⟨kd,ins,lab⟩:=it
 simp only at c0
 by_cases hk:kd=2
 ·subst hk
  rw [show szB ⟨2,ins,lab⟩ l=0 from rfl]
  go_enter Tryz.func60,Tryz.ntmps60
  go_wp2_with fail
  go_ret
  exact ⟨rfl,rfl⟩
 ·cases l
  ·rw [show szB ⟨kd,ins,lab⟩ false=1 by simp [szB,hk]]
   go_enter Tryz.func60,Tryz.ntmps60
   go_wp2_with fail
   go_ret
   exact ⟨rfl,rfl⟩
  ·rw [show szB ⟨kd,ins,lab⟩ true=2 by simp [szB,hk]]
   go_enter Tryz.func60,Tryz.ntmps60
   go_wp2_with fail
   go_ret
   exact ⟨rfl,rfl⟩
theorem dist_any (b o b2 o2:Nat) (it it2:It) (a a2:Int) (v2:Value) (l l2:Bool) (w:World) (h:Pc w b o it a (.pointer (some ⟨b2,o2,none⟩)) l) (h2:Pc w b2 o2 it2 a2 v2 l2) (ha:0<=a/\a<=1000000000) (ha2:0<=a2/\a2<=1000000000) :
  Calls Tryz.prog 41 #[.pointer (some ⟨b,o,none⟩)] w fun e w'=>e = .returned (.int .i64 (a2-a))/\Below w.heap.size w w':=by
 have c8:=h.c8
 have c7:=h.c7
 have d7:=h2.c7
 clear h h2
 go_enter Tryz.func41,Tryz.ntmps41
 go_wp2_with fail
 go_region
 go_wp2_with fail
 go_ret
 exact ⟨rfl,(Below.refl _ _).drew⟩
theorem far_any (b o b2 o2:Nat) (it it2:It) (a a2:Int) (v2:Value) (l l2:Bool) (w:World) (h:Pc w b o it a (.pointer (some ⟨b2,o2,none⟩)) l) (h2:Pc w b2 o2 it2 a2 v2 l2) (ha:0<=a/\a<=1000000000) (ha2:0<=a2/\a2<=1000000000) :
  Calls Tryz.prog 61 #[.pointer (some ⟨b,o,none⟩)] w fun e w'=>e = .returned (.bool (!reach (a2-a)))/\Below w.heap.size w w':=by
 have H:=hide h
 have H2:=hide h2
 clear h h2
 go_enter Tryz.func61,Tryz.ntmps61
 go_wp2_with fail
 refine (dist_any b o b2 o2 it it2 a a2 v2 l l2 w H.out H2.out ha ha2).mono ?_
 rintro e w1 ⟨rfl,hb1⟩
 obtain ⟨d,hd⟩ : ∃d,d=a2-a:=⟨_,rfl⟩
 have HD:=hide hd
 rw [<-hd]
 clear hd
 by_cases h1:d < -4096
 ·have HR:Hid (reach d=false):=decide_eq_false (by omega)
  go_wp2_with fail
  go_ret
  exact ⟨by rw [<-HD.out,HR.out];rfl,hb1⟩
 ·by_cases h3:4094<d
  ·have HR:Hid (reach d=false):=decide_eq_false (by omega)
   go_wp2_with fail
   go_ret
   exact ⟨by rw [<-HD.out,HR.out];rfl,hb1⟩
  ·have HR:Hid (reach d=true):=decide_eq_true (by omega)
   have e1:decide (d < -4096)=false:=decide_eq_false h1
   have e2:decide (4094<d)=false:=decide_eq_false h3
   go_wp2_with fail
   go_ret
   refine ⟨?_,hb1⟩
   rw [<-HD.out,HR.out]
   rfl
end
section
open Go.RowKit
end
section
open Go.RowKit
def lgL (L : Nat → Bool) (n : Nat) : List Bool := (List.range n).map L
theorem lgL_at (L : Nat → Bool) (n i : Nat) (h : i < n) : (lgL L n).getD i false = L i := by simp [lgL, List.getD, h]
theorem lgL_len (L : Nat → Bool) (n : Nat) : (lgL L n).length = n := by simp [lgL]
structure Asm (w : World) (B g n : Nat) (pa : Option Addr) (cap : Nat) (vb : Value) (its : List It) (A : Nat → Int) (G : Nat → Value) (L : Nat → Bool) : Prop where
 len : its.length = n
 box : w.cell? ⟨B, 0, none⟩ = some (.slice pa n cap)
 row : 0 < n → pa = some ⟨g, 0, none⟩
 pcs : PRow w g n its A G L
 brs : w.cell? ⟨B, 1, none⟩ = some vb
set_option maxHeartbeats 2000000 in
theorem place_any (B g n : Nat) (pa : Option Addr) (cap : Nat) (vb : Value) (its : List It) (A : Nat → Int) (G : Nat → Value) (L : Nat → Bool) (w : World) (hB : B ≠ g) (hn : n ≤ 20000) (hc : n ≤ cap) (h : Asm w B g n pa cap vb its A G L) :
  Calls Tryz.prog 36 #[.pointer (some ⟨B, 0, none⟩)] w fun e w' => e = .returned (.int .i64 ((plN its (lgL L n) n : Nat) : Int)) ∧ Tg g w w' ∧ Asm w' B g n pa cap vb its (fun i => if i < n then 4 * ((plN its (lgL L n) i : Nat) : Int) else A i) G L := by
 have H : Hid (Asm w B g n pa cap vb its A G L) := h
 have b0 := h.box
 clear h
 go_enter Tryz.func36, Tryz.ntmps36
 go_wp2_with fail
 clear b0
 go_loopw [3, 10] (fun q i wr => ∃ k : Nat, k ≤ n ∧ i = .int .i64 k ∧ q = .int .i64 ((plN its (lgL L n) k : Nat) : Int) ∧ Tg g w wr ∧ PRow wr g n its (fun i => if i < k then 4 * ((plN its (lgL L n) i : Nat) : Int) else A i) G L) (fun _ i _ => n - (RowKit.intOf i).toNat)
 case atStart => exact ⟨0, Nat.zero_le _, rfl, rfl, Tg.refl _ _, by simpa using H.out.pcs⟩
 case round =>
  obtain ⟨k, hk, rfl, rfl, hT, hP⟩ := hrel
  have HP : Hid (PRow wr g n its (fun i => if i < k then 4 * ((plN its (lgL L n) i : Nat) : Int) else A i) G L) := hP
  have HT : Hid (Tg g w wr) := hT
  have b0 := (hT.cell (o := 0) hB).trans H.out.box
  have b1 := (hT.cell (o := 1) hB).trans H.out.brs
  have hpl := plN_le its (lgL L n) k
  clear hP hT
  by_cases hlt : k < n
  ·have hpa := H.out.row (by omega)
   subst hpa
   obtain ⟨z, hz⟩ : ∃ z : Nat, z = plN its (lgL L n) k := ⟨_, rfl⟩
   have HZ : Hid (z = plN its (lgL L n) k) := hz
   have hz1 : z ≤ 40000 := by omega
   rw [← hz]
   clear hpl hz
   have hp1 := HP.out.at k hlt (4 * (z : Int))
   have hpc := hp1.pc k hlt
   have f7 := HP.out.free k hlt 7 (by omega)
   have c7 := (HP.out.pc k hlt).c7
   have HP1 : Hid (PRow (wr.setCell ⟨g, k * 10 + 7, none⟩ (.int .i64 (4 * (z : Int)))) g n its (upd (fun i => if i < k then 4 * ((plN its (lgL L n) i : Nat) : Int) else A i) k (4 * (z : Int))) G L) := hp1
   have HPc : Hid (Pc (wr.setCell ⟨g, k * 10 + 7, none⟩ (.int .i64 (4 * (z : Int)))) g (k * 10) (its.getD k it0) (upd (fun i => if i < k then 4 * ((plN its (lgL L n) i : Nat) : Int) else A i) k (4 * (z : Int)) k) (G k) (L k)) := hpc
   have hbg : (⟨B, 0, none⟩ : Addr) ≠ ⟨g, k * 10 + 7, none⟩ := by intro h; simp only [Addr.mk.injEq] at h; exact hB h.1
   have b0' : (wr.setCell ⟨g, k * 10 + 7, none⟩ (.int .i64 (4 * (z : Int)))).cell? ⟨B, 0, none⟩ = some (.slice (some ⟨g, 0, none⟩) n cap) := by
    rw [World.cell?_setCell_other _ _ _ _ (fun h => hbg h.symm)]; exact b0
   have em : ((z : Int) * 4) = 4 * (z : Int) := by omega
   clear hp1 hpc
   go_wp2_with fail
   refine (words_any g (k * 10) _ _ _ _ _ HPc.out).mono ?_
   rintro e w2 ⟨rfl, rfl⟩
   have HS : Hid (plN its (lgL L n) (k + 1) = z + szB (its.getD k it0) (L k)) := by show _ = _; rw [HZ.out, ← lgL_at L n k hlt]; rfl
   have hy : szB (its.getD k it0) (L k) ≤ 2 := by
    unfold szB
    split
    ·omega
    ·split <;> omega
   have HP2 : Hid (PRow (wr.setCell ⟨g, k * 10 + 7, none⟩ (.int .i64 (4 * (z : Int)))) g n its (fun i => if i < k + 1 then 4 * ((plN its (lgL L n) i : Nat) : Int) else A i) G L) := by
    have e : upd (fun i => if i < k then 4 * ((plN its (lgL L n) i : Nat) : Int) else A i) k (4 * (z : Int)) = fun i => if i < k + 1 then 4 * ((plN its (lgL L n) i : Nat) : Int) else A i := by
     funext i
     by_cases ei : i = k
     ·subst ei
      rw [upd_same, if_pos (by omega), HZ.out]
     ·rw [upd_other _ _ _ _ ei]
      by_cases h1 : i < k
      ·rw [if_pos h1, if_pos (by omega)]
      ·rw [if_neg h1, if_neg (by omega)]
    have := HP1.out
    rw [e] at this
    exact this
   generalize szB (its.getD k it0) (L k) = y at HS hy ⊢
   clear HPc HP1 b0' c7 f7
   go_wp2_with fail
   go_roundw
   case rel => exact ⟨k + 1, by omega, by go_num, by rw [HS.out]; go_num, HT.out.set _ _, HP2.out⟩
   case measure => simp [RowKit.intOf]; omega
  ·obtain rfl : k = n := by omega
   go_wp2_with fail
   go_ret
   exact ⟨rfl, HT.out, H.out.len, b0, H.out.row, HP.out, b1⟩
end
section
open Go.RowKit
structure Tn (g:Nat) (w w':World):Prop where
 still:w'.os=w.os/\w'.tape=w.tape/\w'.output=w.output
 size:w.heap.size<=w'.heap.size
 other : ∀b,b<w.heap.size->b≠g->w'.heap[b]? = w.heap[b]?
theorem Tn.refl (g:Nat) (w:World):Tn g w w:=⟨⟨rfl,rfl,rfl⟩,Nat.le_refl _,fun _ _ _=>rfl⟩
theorem Tn.of {g:Nat} {w w':World} (h:Tg g w w'):Tn g w w':=⟨h.still,Nat.le_of_eq h.size.symm,fun b _ hb=>h.other b hb⟩
theorem Tn.trans {g:Nat} {w w1 w2:World} (h:Tn g w w1) (k:Tn g w1 w2):Tn g w w2:=⟨⟨k.still.1.trans h.still.1,k.still.2.1.trans h.still.2.1,k.still.2.2.trans h.still.2.2⟩,Nat.le_trans h.size k.size,fun b hl hb=>(k.other b (Nat.lt_of_lt_of_le hl h.size) hb).trans (h.other b hl hb)⟩
theorem Tn.set {g:Nat} {w w':World} (h:Tn g w w') (o:Nat) (v:Value):Tn g w (w'.setCell ⟨g,o,none⟩ v):=by
 have hb0:=(Below.refl 0 w').setCell (p:=⟨g,o,none⟩) (Nat.zero_le _) v
 refine ⟨⟨hb0.os.trans h.still.1,hb0.tape.trans h.still.2.1,hb0.output.trans h.still.2.2⟩,by simpa using h.size,fun b hl hb => ?_⟩
 rw [<-h.other b hl hb]
 exact Below.heap_setCell _ _ _ b (fun h=>hb (by simpa using h))
theorem Tn.step {g:Nat} {w w' w2:World} (h:Tn g w w') (hb:Below w'.heap.size w' w2):Tn g w w2:=
 ⟨⟨hb.os.trans h.still.1,hb.tape.trans h.still.2.1,hb.output.trans h.still.2.2⟩,Nat.le_trans h.size hb.size,fun b hl hn=>(hb.block b (Nat.lt_of_lt_of_le hl h.size)).trans (h.other b hl hn)⟩
theorem Tn.below {B g:Nat} {w w':World} (h:Tn g w w') (hg:B<=g) (hs:B<=w.heap.size):Below B w w':=
 ⟨h.still.1,h.still.2.1,h.still.2.2,h.size,fun k hk=>h.other k (by omega) (by omega)⟩
theorem Tn.cell {g:Nat} {w w':World} (h:Tn g w w') {b o:Nat} (hl:b<w.heap.size) (hb:b≠g):w'.cell? ⟨b,o,none⟩=w.cell? ⟨b,o,none⟩:=World.cell?_of_block (a:=⟨b,o,none⟩) (h.other b hl hb)
def BRow (w:World) (g:Nat) (vb:Value) (bs:List Nat):Prop:=∃ab cb,vb = .slice ab bs.length cb/\bs.length<=cb/\(0<bs.length->∃gb,ab=some ⟨gb,0,none⟩/\gb≠g/\gb<w.heap.size/\∀j (h:j<bs.length),w.cell? ⟨gb,j,none⟩=some (.pointer (some ⟨g,bs[j]*10,none⟩)))
theorem BRow.tn {w w':World} {g:Nat} {vb:Value} {bs:List Nat} (h:BRow w g vb bs) (ht:Tn g w w'):BRow w' g vb bs:=by
 obtain ⟨ab,cb,rfl,h1,h2⟩:=h
 refine ⟨ab,cb,rfl,h1,fun h0 => ?_⟩
 obtain ⟨gb,rfl,h3,h4,h5⟩:=h2 h0
 exact ⟨gb,rfl,h3,Nat.lt_of_lt_of_le h4 ht.size,fun j hj=>(ht.cell h4 h3).trans (h5 j hj)⟩
theorem ret_boolA {a b:Bool} (h:a=b):Ending.returned (.bool a) = .returned (.bool b):=by rw [h]
theorem grows_yes {its:List It} {lg:List Bool} {i:Nat} (hk:(its.getD i it0).kind=3) (hl:lg.getD i false=false):grows its lg i = !reach (farN its lg i):=by
 unfold grows
 rw [hk,hl]
 rfl
theorem grows_long {its:List It} {lg:List Bool} {i:Nat} (hl:lg.getD i false=true):grows its lg i=false:=by
 unfold grows
 rw [hl]
 simp
def GoOk (its:List It) (g:Nat) (G:Nat->Value):Prop:=∀i,i<its.length->(its.getD i it0).kind≠1->(its.getD i it0).kind≠2->G i = .pointer (some ⟨g,tgt its i*10,none⟩)
def lgAfter (its:List It) (lg:List Bool) (L:Nat->Bool) (bs:List Nat):Nat->Bool:=fun i=>L i || (decide (i∈bs) && grows its lg i)
theorem lengthen_any (B g n:Nat) (pa:Option Addr) (cap:Nat) (vb:Value) (its:List It) (A:Nat->Int) (G:Nat->Value) (L:Nat->Bool) (bs:List Nat) (w:World) (hB:B≠g) (hBs:B<w.heap.size) (hgs:0<n->g<w.heap.size) (hn:n<=20000) (h:Asm w B g n pa cap vb its A G L)
  (hA : ∀i,i<n->A i=4*((plN its (lgL L n) i:Nat):Int)) (hG:GoOk its g G) (hbr:BRow w g vb bs) (hbs : ∀i∈bs,i<n/\(its.getD i it0).kind=3) (hbl:bs.length<=n) (hlk:Linked its) :
  Calls Tryz.prog 37 #[.pointer (some ⟨B,0,none⟩)] w fun e w'=>e = .returned (.bool (bs.any (grows its (lgL L n))))/\Tn g w w'/\PRow w' g n its A G (lgAfter its (lgL L n) L bs):=by
 have H:=hide h
 have HA:=hide hA
 have HG:=hide hG
 have HBr:=hide hbr
 have HBs:=hide hbs
 have HLk:=hide hlk
 have hlen:=h.len
 obtain ⟨ab,cb,rfl,hcb,hbc⟩:=hbr
 have HBC:=hide hbc
 have b1:=h.brs
 clear h hA hG hbs hlk hbc
 go_enter Tryz.func37,Tryz.ntmps37
 go_wp2_with fail
 clear b1
 go_loopw [3,11] (fun c i wr=>∃j:Nat,j<=bs.length/\i = .int .i64 j/\c = .bool ((bs.take j).any (grows its (lgL L n)))/\Tn g w wr/\PRow wr g n its A G (lgAfter its (lgL L n) L (bs.take j))) (fun _ i _=>bs.length-(RowKit.intOf i).toNat)
 case atStart=>exact ⟨0,Nat.zero_le _,rfl,rfl,Tn.refl _ _,by have e:lgAfter its (lgL L n) L (bs.take 0)=L:=(by funext i;simp [lgAfter]);rw [e];exact H.out.pcs⟩
 case round=>
  obtain ⟨j,hj,rfl,rfl,hT,hP⟩:=hrel
  have HP:=hide hP
  have HT:=hide hT
  clear hP hT
  by_cases hlt:j<bs.length
  ·obtain ⟨gb,rfl,hgb,hgl,hcs⟩:=HBC.out (by omega)
   have p0:=(HT.out.cell hgl hgb).trans (hcs j hlt)
   obtain ⟨hi,hk3⟩:=HBs.out bs[j] (List.getElem_mem hlt)
   have HTk:Hid (bs.take (j+1)=bs.take j++[bs[j]]):=by
    show _=_
    rw [List.take_add_one,List.getElem?_eq_getElem hlt];rfl
   clear hcs
   generalize bs[j]=i at p0 hi hk3 HTk
   have hgw:g<wr.heap.size:=Nat.lt_of_lt_of_le (hgs (by omega)) HT.out.size
   have HPc:=hide (HP.out.pc i hi)
   have c9:=HPc.out.c9
   have f9:=HP.out.free i hi 9 (by omega)
   generalize hprev:bs.take j=pv at HP HPc HTk c9 ⊢
   clear hprev
   cases hl:lgAfter its (lgL L n) L pv i
   ·rw [hl] at c9
    have h0:L i=false:=by
     simp only [lgAfter,Bool.or_eq_false_iff] at hl
     exact hl.1
    have hlt2:tgt its i<n:=by rw [<-hlen];exact tgt_lt HLk.out (by omega)
    have hGi:G i = .pointer (some ⟨g,tgt its i*10,none⟩):=HG.out i (by omega) (by omega) (by omega)
    have HPt:=hide (HP.out.pc _ hlt2)
    have HPi:Hid (Pc wr g (i*10) (its.getD i it0) (A i) (.pointer (some ⟨g,tgt its i*10,none⟩)) (lgAfter its (lgL L n) L pv i)):=by have:=HPc.out;rw [hGi] at this;exact this
    have hp1:=plN_le its (lgL L n) i
    have hp2:=plN_le its (lgL L n) (tgt its i)
    have ha1:=HA.out i hi
    have ha2:=HA.out _ hlt2
    have HFar:Hid (A (tgt its i)-A i=farN its (lgL L n) i):=by show _=_;rw [ha1,ha2];rfl
    have HGr:Hid (grows its (lgL L n) i = !reach (A (tgt its i)-A i)):=by
     show _=_
     rw [HFar.out]
     exact grows_yes hk3 (by rw [lgL_at L n i hi];exact h0)
    have hb1:0<=A i/\A i<=1000000000:=by omega
    have hb2:0<=A (tgt its i)/\A (tgt its i)<=1000000000:=by omega
    clear ha1 ha2 hp1 hp2 hGi
    go_wp2_with fail
    refine (far_any g (i*10) g (tgt its i*10) _ _ _ _ _ _ _ _ HPi.out HPt.out hb1 hb2).mono ?_
    rintro e w2 ⟨rfl,hb3⟩
    have HT2:Hid (Tn g w w2):=HT.out.step hb3
    have HP2:Hid (PRow w2 g n its A G (lgAfter its (lgL L n) L pv)):=HP.out.below hgw hb3
    have c9':=(HP2.out.pc i hi).c9
    have f9':=HP2.out.free i hi 9 (by omega)
    rw [hl] at c9'
    clear hb3 c9 f9 p0
    cases hr:reach (A (tgt its i)-A i)
    ·have HG1:Hid (grows its (lgL L n) i=true):=by show _=_;rw [HGr.out,hr];rfl
     have HP3:Hid (PRow (w2.setCell ⟨g,i*10+9,none⟩ (.bool true)) g n its A G (lgAfter its (lgL L n) L (bs.take (j+1)))):=by
      have e:upd (lgAfter its (lgL L n) L pv) i true=lgAfter its (lgL L n) L (bs.take (j+1)):=by
       rw [HTk.out]
       funext x
       by_cases hx:x=i
       ·subst hx
        rw [upd_same]
        simp [lgAfter,HG1.out]
       ·rw [upd_other _ _ _ _ hx]
        simp [lgAfter,hx]
      rw [<-e]
      exact HP2.out.long i hi true
     have HC:Hid ((bs.take (j+1)).any (grows its (lgL L n))=true):=by
      show _=_
      rw [HTk.out,List.any_append]
      simp [HG1.out]
     clear hr
     go_wp2_with fail
     go_roundw
     case rel=>exact ⟨j+1,by omega,by go_num,by rw [HC.out],HT2.out.set _ _,HP3.out⟩
     case measure=>simp [RowKit.intOf];omega
    ·have HG1:Hid (grows its (lgL L n) i=false):=by show _=_;rw [HGr.out,hr];rfl
     have HP3:Hid (PRow w2 g n its A G (lgAfter its (lgL L n) L (bs.take (j+1)))):=by
      have e:lgAfter its (lgL L n) L pv=lgAfter its (lgL L n) L (bs.take (j+1)):=by
       rw [HTk.out]
       funext x
       by_cases hx:x=i
       ·subst hx
        simp [lgAfter,HG1.out]
       ·simp [lgAfter,hx]
      rw [<-e]
      exact HP2.out
     have HC:Hid ((bs.take (j+1)).any (grows its (lgL L n))=pv.any (grows its (lgL L n))):=by
      show _=_
      rw [HTk.out,List.any_append]
      simp [HG1.out]
     clear hr
     go_wp2_with fail
     go_roundw
     case rel=>exact ⟨j+1,by omega,by go_num,by rw [HC.out],HT2.out,HP3.out⟩
     case measure=>simp [RowKit.intOf];omega
   ·rw [hl] at c9
    have HEq:Hid (lgAfter its (lgL L n) L (bs.take (j+1))=lgAfter its (lgL L n) L pv/\(bs.take (j+1)).any (grows its (lgL L n))=pv.any (grows its (lgL L n))):=by
     rw [HTk.out]
     constructor
     ·funext x
      by_cases hx:x=i
      ·subst hx
       rw [hl]
       simp only [lgAfter,Bool.or_eq_true,Bool.and_eq_true,decide_eq_true_eq] at hl ⊢
       rcases hl with hl | hl
       ·exact .inl hl
       ·exact .inr ⟨by simp [hl.1],hl.2⟩
      ·simp [lgAfter,hx]
     ·rw [List.any_append]
      simp only [List.any_cons,List.any_nil,Bool.or_false]
      simp only [lgAfter,Bool.or_eq_true,Bool.and_eq_true,decide_eq_true_eq] at hl
      rcases hl with hl | hl
      ·have:grows its (lgL L n) i=false:=grows_long (by rw [lgL_at L n i hi];exact hl)
       rw [this];simp
      ·have:pv.any (grows its (lgL L n))=true:=List.any_eq_true.2 ⟨i,hl.1,hl.2⟩
       rw [this];rfl
    go_wp2_with fail
    go_roundw
    case rel=>exact ⟨j+1,by omega,by go_num,by rw [HEq.out.2],HT.out,by rw [HEq.out.1];exact HP.out⟩
    case measure=>simp [RowKit.intOf];omega
  ·obtain rfl:j=bs.length:=by omega
   have HP2:Hid (PRow wr g n its A G (lgAfter its (lgL L n) L bs)):=by have:=HP.out;rw [List.take_length] at this;exact this
   have HC:Hid ((bs.take bs.length).any (grows its (lgL L n))=bs.any (grows its (lgL L n))):=by show _=_;rw [List.take_length]
   generalize (bs.take bs.length).any (grows its (lgL L n))=cc at HC ⊢
   go_wp2_with fail
   go_ret
   exact ⟨ret_boolA HC.out,HT.out,HP2.out⟩
end
section
open Go.RowKit
theorem plN_mono {its:List It} {l l':List Bool} (h : ∀i,l.getD i false=true->l'.getD i false=true) (n:Nat):plN its l n<=plN its l' n:=by
 induction n with
 | zero=>exact Nat.le_refl _
 | succ n ih=>
  simp only [plN]
  have:szB (its.getD n it0) (l.getD n false)<=szB (its.getD n it0) (l'.getD n false):=by
   have hn:=h n
   cases e:l.getD n false <;> cases e':l'.getD n false
   ·exact Nat.le_refl _
   ·unfold szB;split <;> simp
   ·rw [hn e] at e';cases e'
   ·exact Nat.le_refl _
  omega
theorem plN_lt {its:List It} {l l':List Bool} (h : ∀i,l.getD i false=true->l'.getD i false=true) {i n:Nat} (hi:i<n) (hk:(its.getD i it0).kind≠2) (h1:l.getD i false=false) (h2:l'.getD i false=true):plN its l n<plN its l' n:=by
 induction n with
 | zero=>omega
 | succ n ih=>
  simp only [plN]
  by_cases e:i=n
  ·subst e
   have:=plN_mono (its:=its) h i
   rw [h1,h2]
   have e1:szB (its.getD i it0) false=1:=by unfold szB;rw [if_neg hk];rfl
   have e2:szB (its.getD i it0) true=2:=by unfold szB;rw [if_neg hk];rfl
   omega
  ·have:=ih (by omega)
   have:szB (its.getD n it0) (l.getD n false)<=szB (its.getD n it0) (l'.getD n false):=by
    have hn:=h n
    cases e:l.getD n false <;> cases e':l'.getD n false
    ·exact Nat.le_refl _
    ·unfold szB;split <;> simp
    ·rw [hn e] at e';cases e'
    ·exact Nat.le_refl _
   omega
def brs (its:List It):List Nat:=(List.range its.length).filter (fun i=>decide ((its.getD i it0).kind=3))
theorem brs_mem {its:List It} {i:Nat} (h:i∈brs its):i<its.length/\(its.getD i it0).kind=3:=by
 simpa only [brs,List.mem_filter,List.mem_range,decide_eq_true_eq] using h
theorem mem_brs {its:List It} {i:Nat} (h:i<its.length) (hk:(its.getD i it0).kind=3):i∈brs its:=by
 simp only [brs,List.mem_filter,List.mem_range,decide_eq_true_eq]
 exact ⟨h,hk⟩
theorem brs_len (its:List It):(brs its).length<=its.length:=by
 have:=List.length_filter_le (fun i=>decide ((its.getD i it0).kind=3)) (List.range its.length)
 simpa [brs] using this
theorem grows_brs {its:List It} {lg:List Bool} {i:Nat} (hi:i<its.length) (h:grows its lg i=true):i∈brs its:=by
 refine mem_brs hi ?_
 unfold grows at h
 simp only [Bool.and_eq_true,decide_eq_true_eq] at h
 exact h.1.1
theorem lgAfter_turn {its:List It} {L:Nat->Bool} {n:Nat} (hn:its.length=n):lgL (lgAfter its (lgL L n) L (brs its)) n=turn its (lgL L n):=by
 apply List.ext_getElem
 ·simp [lgL_len,turn_len]
 ·intro i h1 h2
  have hi:i<n:=by simpa [lgL_len] using h1
  have e1:(lgL (lgAfter its (lgL L n) L (brs its)) n)[i]=lgAfter its (lgL L n) L (brs its) i:=by simp [lgL]
  have e2:(turn its (lgL L n))[i]=((lgL L n).getD i false || grows its (lgL L n) i):=by
   have:=turn_at its (lgL L n) i (by rw [lgL_len];exact hi)
   rw [<-this]
   simp [List.getD,h2]
  rw [e1,e2,lgL_at L n i hi]
  unfold lgAfter
  cases hg:grows its (lgL L n) i
  ·simp
  ·rw [decide_eq_true (grows_brs (by omega) hg)]
   simp
theorem turn_same {its:List It} {lg:List Bool} (hl:lg.length=its.length) (h:(brs its).any (grows its lg)=false):turn its lg=lg:=by
 have h' : ∀i,i<its.length->grows its lg i=false:=by
  intro i hi
  cases hg:grows its lg i
  ·rfl
  ·have:=List.any_eq_true.2 ⟨i,grows_brs hi hg,hg⟩
   rw [this] at h
   cases h
 apply List.ext_getElem
 ·exact turn_len _ _
 ·intro i h1 h2
  have e2:(turn its lg)[i]=(lg.getD i false || grows its lg i):=by
   rw [<-turn_at its lg i h2]
   simp [List.getD,h1]
  rw [e2,h' i (by omega)]
  simp [List.getD,h2]
theorem turn_more {its:List It} {lg:List Bool} (hl:lg.length=its.length) (h:(brs its).any (grows its lg)=true):plN its lg its.length<plN its (turn its lg) its.length:=by
 obtain ⟨i,hi,hg⟩:=List.any_eq_true.1 h
 obtain ⟨h1,h2⟩:=brs_mem hi
 refine plN_lt (fun j hj => ?_) (i:=i) h1 (by omega) ?_ ?_
 ·have hjl:j<lg.length:=by
   by_cases hh:j<lg.length
   ·exact hh
   ·simp [List.getD,List.getElem?_eq_none (by omega:lg.length<=j)] at hj
  rw [turn_at its lg j hjl,hj]
  rfl
 ·unfold grows at hg
  simp only [Bool.and_eq_true,Bool.not_eq_true'] at hg
  exact hg.1.2
 ·rw [turn_at its lg i (by omega),hg]
  simp
theorem settle_any (B g n:Nat) (pa:Option Addr) (cap:Nat) (vb:Value) (its:List It) (A:Nat->Int) (G:Nat->Value) (L:Nat->Bool) (w:World) (hB:B≠g) (hBs:B<w.heap.size) (hgs:0<n->g<w.heap.size) (hn:n<=20000) (hc:n<=cap) (h:Asm w B g n pa cap vb its A G L)
  (hL:lgL L n=turns its 0) (hG:GoOk its g G) (hbr:BRow w g vb (brs its)) (hlk:Linked its) :
  Calls Tryz.prog 14 #[.pointer (some ⟨B,0,none⟩)] w fun e w'=>∃lg A' L',Fin its lg/\lgL L' n=lg/\e = .returned (.int .i64 ((plN its lg n:Nat):Int))/\Tn g w w'/\Asm w' B g n pa cap vb its A' G L'/\∀i,i<n->A' i=4*((plN its lg i:Nat):Int):=by
 have H:=hide h
 have HG:=hide hG
 have HBr:=hide hbr
 have HLk:=hide hlk
 have hlen:=h.len
 have HL:=hide hL
 clear h hG hlk hbr hL
 go_enter Tryz.func14,Tryz.ntmps14
 go_wp2_with fail
 refine (place_any B g n pa cap vb its A G L w hB hn hc H.out).mono ?_
 rintro e w1 ⟨rfl,hT1,hA1⟩
 rw [HL.out] at hA1 ⊢
 have HA1:=hide hA1
 have HT1:Hid (Tn g w w1):=Tn.of hT1
 clear hT1 hA1
 go_wp2_with fail
 go_loopw [3] (fun q wr=>∃(m:Nat) (A':Nat->Int) (L':Nat->Bool),q = .int .i64 ((plN its (turns its m) n:Nat):Int)/\lgL L' n=turns its m/\Tn g w wr/\Asm wr B g n pa cap vb its A' G L'/\∀i,i<n->A' i=4*((plN its (turns its m) i:Nat):Int)) (fun q _=>2*n-(RowKit.intOf q).toNat)
 case atStart=>exact ⟨0,_,L,rfl,HL.out,HT1.out,HA1.out,fun i hi=>if_pos hi⟩
 case round=>
  clear HA1 HT1
  obtain ⟨m,A',L',rfl,hL',hT,hA,hA'⟩:=hrel
  have HA:=hide hA
  have HT:=hide hT
  have HL':=hide hL'
  have HA':=hide hA'
  have hBw:B<wr.heap.size:=Nat.lt_of_lt_of_le hBs hT.size
  have hgw:0<n->g<wr.heap.size:=fun h=>Nat.lt_of_lt_of_le (hgs h) hT.size
  clear hA hT hL' hA'
  have hbl:(brs its).length<=n:=by rw [<-hlen];exact brs_len its
  go_wp2_with fail
  refine (lengthen_any B g n pa cap vb its A' G L' (brs its) wr hB hBw hgw hn HA.out (by rw [HL'.out];exact HA'.out) HG.out (HBr.out.tn HT.out) (fun i hi=>by have:=brs_mem hi;rw [hlen] at this;exact this) hbl HLk.out).mono ?_
  rintro e w2 ⟨rfl,hT2,hP2⟩
  have HT2:Hid (Tn g w w2):=HT.out.trans hT2
  have b0:=(hT2.cell (o:=0) hBw hB).trans HA.out.box
  have b1:=(hT2.cell (o:=1) hBw hB).trans HA.out.brs
  have HA2:Hid (Asm w2 B g n pa cap vb its A' G (lgAfter its (lgL L' n) L' (brs its))):=⟨HA.out.len,b0,HA.out.row,hP2,b1⟩
  have HTu:Hid (lgL (lgAfter its (lgL L' n) L' (brs its)) n=turns its (m+1)):=by show _=_;rw [lgAfter_turn hlen,HL'.out];rfl
  rw [HL'.out]
  clear hT2 hP2 b0 b1
  have htl:=turns_len its m
  cases hany:(brs its).any (grows its (turns its m))
  ·have HF:Hid (Fin its (turns its m)):=⟨⟨m,rfl⟩,turn_same htl hany⟩
   have HTs:Hid (turns its (m+1)=turns its m):=HF.out.2
   clear hany
   go_wp2_with fail
   go_ret
   exact ⟨turns its m,A',_,HF.out,by rw [<-HTs.out];exact HTu.out,rfl,HT2.out,HA2.out,HA'.out⟩
  ·have hmore:=turn_more htl hany
   rw [hlen] at hmore
   have hmore2:plN its (turns its m) n<plN its (turns its (m+1)) n:=hmore
   have hle:=plN_le its (turns its (m+1)) n
   clear hany hmore
   go_wp2_with fail
   refine (place_any B g n pa cap vb its A' G _ w2 hB hn hc HA2.out).mono ?_
   rintro e w3 ⟨rfl,hT3,hA3⟩
   rw [HTu.out] at hA3 ⊢
   have HA3:=hide hA3
   have HT3:Hid (Tn g w w3):=HT2.out.trans (Tn.of hT3)
   clear hT3 hA3
   go_wp2_with fail
   go_roundw
   case rel=>exact ⟨m+1,_,_,rfl,HTu.out,HT3.out,HA3.out,fun i hi=>if_pos hi⟩
   case measure=>simp [RowKit.intOf];omega
end
end Go.Proofs.YtpdndlghjldhjaaGreat
