import Derived.Test.YtpdndlghjldhjaaGreatM52
import Derived.Test.YtpdndlghjldhjaaGreatM49
set_option linter.unusedSectionVars false
variable [Inhabited Go.Proofs.YtpdndlghjldhjaaGreat.Pick]
namespace Go.Proofs.YtpdndlghjldhjaaGreat
set_option linter.unusedVariables false
set_option linter.unusedSimpArgs false
set_option maxRecDepth 100000
set_option maxHeartbeats 16000000
section
open Go.RowKit
structure FnOkG (f : Fu) : Prop where
 st : ∀ s ∈ f.body, StOk s
 fit : fitB f.body = true
 pl : f.params.length ≤ 6
 bl : f.body.length ≤ 500
 ns : nodeSum f.body ≤ 2000
theorem fnOkG {t : Tr} (h : treeB t = true) : t.globals.length ≤ 50 ∧ t.funcs.length ≤ 50 ∧ (∀ g ∈ t.globals, 0 ≤ g.size ∧ g.size ≤ 4000) ∧ ∀ f ∈ t.funcs, FnOkG f := by
 unfold treeB at h
 simp only [Bool.and_eq_true, decide_eq_true_eq, List.all_eq_true] at h
 obtain ⟨h1, h2, h3, h4⟩ := h
 refine ⟨h1, h2, fun g hg => ?_, fun f hf => ?_⟩
 ·have := h3 g hg
  unfold globB at this
  simp only [Bool.and_eq_true, decide_eq_true_eq] at this
  exact this.2
 ·have := h4 f hf
  unfold funcB at this
  simp only [Bool.and_eq_true, decide_eq_true_eq] at this
  obtain ⟨a1, a2, a3, a4, a5, a6⟩ := this
  unfold stmtsB at a5
  simp only [Bool.and_eq_true, decide_eq_true_eq, List.all_eq_true] at a5
  refine ⟨fun s hs => ⟨a5.2 s hs, ?_, ?_⟩, a6, a2, a3, a5.1⟩
  ·have := nodeSum_mem hs; omega
  ·have := nodeSum_mem hs; omega
theorem FnOkG.sz {f : Fu} (h : FnOkG f) : szLs f.body ≤ 2500 := by
 have := h.bl
 have := h.ns
 unfold szLs
 omega
theorem FnOkG.code {f : Fu} (h : FnOkG f) (t : Tr) (i : Nat) (l : Int) : (codeF t i f l).1.length ≤ 60100 ∧ l ≤ (codeF t i f l).2 ∧ (codeF t i f l).2 ≤ l + 5100 := by
 have hs := codeB_sb (envF t f) l f.body.length f.body (Nat.le_refl _) (fun s hs => ⟨code_cb _ (h.st s hs).one, fun h3 => code_cb _ ((h.st s hs).two h3)⟩) (l + 1)
 have h1 := h.sz
 have h2 := h.pl
 unfold codeF
 simp only [List.length_append, List.length_cons, List.length_nil, parL_len]
 obtain ⟨a1, a2, a3⟩ := hs
 refine ⟨?_, ?_, ?_⟩ <;> omega
theorem codeT_bd {t : Tr} (h : ∀ f ∈ t.funcs, FnOkG f) : ∀ (k : Nat) (l : Int), k ≤ t.funcs.length → (codeT t k l).1.length ≤ 3 + 60100 * k ∧ l ≤ (codeT t k l).2 ∧ (codeT t k l).2 ≤ l + 5100 * k
 | 0, l, _ => by simp [codeT]
 | k + 1, l, hk => by
  obtain ⟨a1, a2, a3⟩ := codeT_bd h k l (by omega)
  have hm : t.funcs.getD k ⟨⟨#[]⟩, [], []⟩ ∈ t.funcs := by
   rw [List.getD_eq_getElem?_getD, List.getElem?_eq_getElem (by omega)]
   exact List.getElem_mem (by omega)
  obtain ⟨b1, b2, b3⟩ := (h _ hm).code t k (codeT t k l).2
  simp only [codeT, List.length_append]
  refine ⟨?_, ?_, ?_⟩ <;> omega
theorem bound_ok {t : Tr} (h : ¬ boundE t < 0) : (checkE t).1 = 0 ∧ ∀ f ∈ t.funcs, frameSz f ≤ 2032 := by
 unfold boundE at h
 by_cases hc : (checkE t).1 = 0 ∧ ∀ x ∈ framesL t, x ≤ 2032
 ·refine ⟨hc.1, fun f hf => hc.2 _ ?_⟩
  unfold framesL
  rw [if_pos hc.1]
  exact List.mem_map.2 ⟨f, hf, rfl⟩
 ·rw [if_neg hc] at h
  omega
theorem frameSz_nonneg {f : Fu} (h : ∀ s ∈ f.body, okE s.e ∧ okE s.f) : 4 ≤ frameSz f := by
 have := places_bd f.body h
 unfold frameSz
 omega
end
section
def L0 (l:List It):Prop:=∀x∈l,x.label=0
theorem L0.lk {M:Int} {l:List It} (h:L0 l) (hM:0<=M):Lk M l:=fun x hx=>by rw [h x hx];omega
theorem L0.app {a b:List It} (ha:L0 a) (hb:L0 b):L0 (a++b):=fun x hx=>(List.mem_append.1 hx).elim (ha x) (hb x)
theorem l0_read (E:GEnv) (d sp:Int):L0 (readL E d sp):=by unfold readL L0;split <;> simp [insI]
theorem l0_write (E:GEnv) (d:Int):L0 (writeL E d):=by unfold writeL L0;split <;> simp [insI]
theorem l0_load (r v:Int):L0 (loadL r v):=by unfold loadL L0;split <;> (try split) <;> simp [insI]
theorem l0_answer (E:GEnv) (d:Int):L0 (answerL E d):=by unfold answerL L0;split <;> simp [insI]
theorem l0_un (op r a:Int):L0 (unL op r a):=by unfold unL L0;split <;> (try split) <;> simp [insI]
theorem l0_bin (op r a b:Int):L0 (binL op r a b):=by unfold binL L0;split <;> (try split) <;> (try split) <;> (try split) <;> (try split) <;> (try split) <;> simp [insI]
theorem l0_one (op rd s1 s2 im:Int):L0 [insI op rd s1 s2 im]:=by simp [L0,insI]
theorem l0_var (E:GEnv) (s:ByteArray) (r:Int):L0 (varL E s r):=by
 unfold varL
 split
 ·exact l0_one _ _ _ _ _
 ·exact (l0_load _ _).app (l0_one _ _ _ _ _)
theorem l0_assign (E:GEnv) (s:ByteArray) (r:Int):L0 (assignL E s r):=by
 unfold assignL
 split
 ·exact l0_one _ _ _ _ _
 ·exact (l0_load _ _).app (l0_one _ _ _ _ _)
theorem l0_keep (E:GEnv) : ∀j,L0 (keepL E j)
 | 0=>by simp [L0,keepL]
 | j+1=>(l0_keep E j).app (l0_one _ _ _ _ _)
theorem l0_back (E:GEnv) : ∀j,L0 (backL E j)
 | 0=>by simp [L0,backL]
 | j+1=>(l0_back E j).app (l0_one _ _ _ _ _)
theorem l0_par : ∀j,L0 (parL j)
 | 0=>by simp [L0,parL]
 | j+1=>(l0_par j).app (l0_one _ _ _ _ _)
theorem l0_pass (E:GEnv) (d:Int) : ∀j,L0 (passL E d j)
 | 0=>by simp [L0,passL]
 | j+1=>(l0_pass E d j).app (by split <;> exact l0_one _ _ _ _ _)
def CL (F:Int) (g:Cod):Prop:=∀d l,0<=l->l<=(g d l).2/\∀M,F<=M->(g d l).2<=M->Lk M (g d l).1
def BL (F:Int) (g:Blk):Prop:=∀l,0<=l->l<=(g l).2/\∀M,F<=M->(g l).2<=M->Lk M (g l).1
theorem args_cl {F:Int} {G:Nat->Cod} {d:Int} : ∀(A:Nat) (l:Int),0<=l->(∀i,i<A->CL F (G i))->l<=(argsC G d A l).2/\∀M,F<=M->(argsC G d A l).2<=M->Lk M (argsC G d A l).1
 | 0,l,_,_=>by simp [argsC,Lk]
 | A+1,l,hl,h=>by
  obtain ⟨h1,h2⟩:=args_cl (d:=d) A l hl (fun i hi=>h i (by omega))
  obtain ⟨g1,g2⟩:=h A (by omega) (d+A) (argsC G d A l).2 (by omega)
  simp only [argsC]
  refine ⟨by omega,fun M hF hM => ?_⟩
  rw [lk_app]
  exact ⟨h2 M hF (by omega),g2 M hF hM⟩
theorem gen_cl (E:GEnv) {F:Int} (hE : ∀s,-1<=E.fn s/\E.fn s<=F) {n:Nd} {A:Nat} {G:Nat->Cod} (hn:nodeB n=true) (hA:arity n=A) (h : ∀i,i<A->CL F (G i)):CL F (genN E n A G):=by
 intro d l hl
 have hk:=kind_good hn
 have r1:=l0_read E d 30
 have r2:=l0_read E (d+1) 31
 have r3:=l0_write E d
 have r4:=l0_answer E d
 have r5 : ∀op rd s1 s2 im,(insI op rd s1 s2 im).label=0:=fun _ _ _ _ _=>rfl
 unfold genN
 by_cases h1:n.kind=1
 ·simp only [h1,if_true,lk_app]
  exact ⟨by omega,fun M hF hM=>⟨(l0_load _ _).lk (by omega),r3.lk (by omega)⟩⟩
 rw [if_neg h1]
 by_cases h2:n.kind=2
 ·simp only [h2,if_true,lk_app]
  exact ⟨by omega,fun M hF hM=>⟨(l0_var _ _ _).lk (by omega),r3.lk (by omega)⟩⟩
 rw [if_neg h2]
 by_cases h3:n.kind=3
 ·have e:A=1:=by simp [arity,h3] at hA;omega
  subst e
  obtain ⟨g1,g2⟩:=h 0 (by omega) d l hl
  simp only [h3,if_true,lk_app,lk_cons,lk_nil,r5]
  refine ⟨g1,fun M hF hM=>⟨⟨⟨⟨⟨g2 M hF hM,r1.lk (by omega)⟩,⟨by omega,trivial⟩⟩,(l0_load _ _).lk (by omega)⟩,⟨by omega,by omega,trivial⟩⟩,r3.lk (by omega)⟩⟩
 rw [if_neg h3]
 by_cases h4:n.kind=4
 ·rw [if_pos h4]
  obtain ⟨g1,g2⟩:=args_cl (d:=d) A l hl h
  have he:=hE n.name
  simp only [callC,lk_app,lk_cons,lk_nil,markI]
  exact ⟨g1,fun M hF hM=>⟨⟨⟨⟨⟨g2 M hF hM,(l0_keep _ _).lk (by omega)⟩,(l0_pass _ _ _).lk (by omega)⟩,⟨by omega,trivial⟩⟩,(l0_back _ _).lk (by omega)⟩,r4.lk (by omega)⟩⟩
 rw [if_neg h4]
 by_cases h5:n.kind=5
 ·simp only [h5,if_true,lk_app,lk_cons,lk_nil,r5]
  exact ⟨by omega,fun M hF hM=>⟨⟨by omega,by omega,trivial⟩,r4.lk (by omega)⟩⟩
 rw [if_neg h5]
 by_cases h66:n.kind=6
 ·have e:A=1:=by simp [arity,h66] at hA;omega
  subst e
  obtain ⟨g1,g2⟩:=h 0 (by omega) d l hl
  simp only [h66,if_true,lk_app]
  exact ⟨g1,fun M hF hM=>⟨⟨⟨g2 M hF hM,r1.lk (by omega)⟩,(l0_un _ _ _).lk (by omega)⟩,r3.lk (by omega)⟩⟩
 rw [if_neg h66]
 have e:A=2:=by
  have h789:n.kind=7∨n.kind=8∨n.kind=9:=by omega
  rcases h789 with hh | hh | hh <;> (simp [arity,hh] at hA;omega)
 subst e
 by_cases h7:n.kind=7
 ·obtain ⟨g1,g2⟩:=h 0 (by omega) d l hl
  obtain ⟨k1,k2⟩:=h 1 (by omega) (d+1) (G 0 d l).2 (by omega)
  simp only [h7,if_true,lk_app]
  exact ⟨by omega,fun M hF hM=>⟨⟨⟨⟨⟨g2 M hF (by omega),k2 M hF hM⟩,r1.lk (by omega)⟩,r2.lk (by omega)⟩,(l0_bin _ _ _ _).lk (by omega)⟩,r3.lk (by omega)⟩⟩
 ·rw [if_neg h7]
  obtain ⟨g1,g2⟩:=h 0 (by omega) d (l+1) (by omega)
  obtain ⟨k1,k2⟩:=h 1 (by omega) d (G 0 d (l+1)).2 (by omega)
  simp only [choiceC,lk_app,lk_cons,lk_nil,r5,markI,branI]
  exact ⟨by omega,fun M hF hM=>⟨⟨⟨⟨⟨⟨⟨g2 M hF (by omega),r1.lk (by omega)⟩,⟨by omega,trivial⟩⟩,k2 M hF hM⟩,⟨by omega,trivial⟩⟩,r1.lk (by omega)⟩,⟨by omega,trivial⟩⟩,r3.lk (by omega)⟩⟩
theorem code_clN (E:GEnv) {F:Int} (hE : ∀s,-1<=E.fn s/\E.fn s<=F) (N:Nat) : ∀e:List Nd,e.length<=N->oneB e=true->∃g,EA (genN E) e g/\CL F g:=by
 induction N with
 | zero=>intro e hl h;have:=one_pos h;omega
 | succ N ih=>
  intro e hl h
  obtain ⟨A,b,hc,hk⟩:=one_cuts h
  have h0 : ∀i,∃g,i<A->EA (genN E) (kid e b i) g/\CL F g:=by
   intro i
   by_cases hi:i<A
   ·obtain ⟨g,hg⟩:=ih (kid e b i) (by have:=hc.kid_lt i hi;omega) (hk i hi)
    exact ⟨g,fun _=>hg⟩
   ·exact ⟨fun _ l=>([],l),fun h=>absurd h hi⟩
  exact ⟨_,EA.cut (gen_own E) hc (G:=fun i=>(h0 i).choose) (fun i hi=>((h0 i).choose_spec hi).1),gen_cl E hE hc.root_good hc.ar (fun i hi=>((h0 i).choose_spec hi).2)⟩
theorem code_cl (E:GEnv) {F:Int} (hE : ∀s,-1<=E.fn s/\E.fn s<=F) {e:List Nd} (h:oneB e=true):CL F (codeE E e):=by
 obtain ⟨g,h1,h2⟩:=code_clN E hE e.length e (Nat.le_refl _) h
 unfold codeE
 rw [h1.eq]
 exact h2
theorem codeS_bl (E:GEnv) {F:Int} (en:Int) (s:St) (a b:Blk) (hen : -1<=en/\en<=F) (he:CL F (codeE E s.e)) (hf:s.kind=3->CL F (codeE E s.f)) (ha:BL F a) (hb:BL F b):BL F (codeS E en s a b):=by
 intro l hl
 have r5 : ∀op rd s1 s2 im,(insI op rd s1 s2 im).label=0:=fun _ _ _ _ _=>rfl
 obtain ⟨g1,g2⟩:=he 0 l hl
 unfold codeS
 by_cases h1:s.kind=1∨s.kind=2
 ·rw [if_pos h1]
  simp only [lk_app]
  exact ⟨g1,fun M hF hM=>⟨g2 M hF hM,(l0_assign _ _ _).lk (by omega)⟩⟩
 rw [if_neg h1]
 by_cases h3:s.kind=3
 ·rw [if_pos h3]
  obtain ⟨k1,k2⟩:=hf h3 1 (codeE E s.e 0 l).2 (by omega)
  simp only [lk_app,lk_cons,lk_nil,r5]
  exact ⟨by omega,fun M hF hM=>⟨⟨⟨⟨g2 M hF (by omega),k2 M hF hM⟩,⟨by omega,trivial⟩⟩,(l0_load _ _).lk (by omega)⟩,⟨by omega,by omega,trivial⟩⟩⟩
 rw [if_neg h3]
 by_cases h4:s.kind=4
 ·rw [if_pos h4]
  by_cases hl2:0<s.els
  ·rw [if_pos hl2]
   obtain ⟨g1,g2⟩:=he 0 (l+2) (by omega)
   obtain ⟨k1,k2⟩:=ha (codeE E s.e 0 (l+2)).2 (by omega)
   obtain ⟨m1,m2⟩:=hb (a (codeE E s.e 0 (l+2)).2).2 (by omega)
   simp only [lk_app,lk_cons,lk_nil,markI,branI]
   exact ⟨by omega,fun M hF hM=>⟨⟨⟨⟨⟨g2 M hF (by omega),⟨by omega,trivial⟩⟩,k2 M hF (by omega)⟩,⟨by omega,by omega,trivial⟩⟩,m2 M hF hM⟩,⟨by omega,trivial⟩⟩⟩
  ·rw [if_neg hl2]
   obtain ⟨g1,g2⟩:=he 0 (l+1) (by omega)
   obtain ⟨k1,k2⟩:=ha (codeE E s.e 0 (l+1)).2 (by omega)
   simp only [lk_app,lk_cons,lk_nil,markI,branI]
   exact ⟨by omega,fun M hF hM=>⟨⟨⟨g2 M hF (by omega),⟨by omega,trivial⟩⟩,k2 M hF hM⟩,⟨by omega,trivial⟩⟩⟩
 rw [if_neg h4]
 by_cases h5:s.kind=5
 ·rw [if_pos h5]
  obtain ⟨g1,g2⟩:=he 0 (l+2) (by omega)
  obtain ⟨k1,k2⟩:=ha (codeE E s.e 0 (l+2)).2 (by omega)
  simp only [lk_app,lk_cons,lk_nil,markI,branI]
  exact ⟨by omega,fun M hF hM=>⟨⟨⟨⟨⟨by omega,trivial⟩,g2 M hF (by omega)⟩,⟨by omega,trivial⟩⟩,k2 M hF hM⟩,⟨by omega,by omega,trivial⟩⟩⟩
 rw [if_neg h5]
 by_cases h6:s.kind=6
 ·rw [if_pos h6]
  simp only [lk_app,lk_cons,lk_nil,r5,markI]
  exact ⟨g1,fun M hF hM=>⟨g2 M hF hM,by omega,by omega,trivial⟩⟩
 rw [if_neg h6]
 by_cases h7:s.kind=7
 ·rw [if_pos h7]
  simp only [lk_app,lk_cons,lk_nil,r5]
  exact ⟨g1,fun M hF hM=>⟨g2 M hF hM,by omega,by omega,by omega,trivial⟩⟩
 rw [if_neg h7]
 exact ⟨g1,g2⟩
theorem codeB_bl (E:GEnv) {F:Int} (en:Int) (hen : -1<=en/\en<=F) (N:Nat) : ∀ss:List St,ss.length<=N->(∀s∈ss,CL F (codeE E s.e)/\(s.kind=3->CL F (codeE E s.f)))->BL F (codeB E en ss):=by
 induction N with
 | zero=>
  intro ss hl h l h0
  have:ss = []:=List.eq_nil_of_length_eq_zero (by omega)
  subst this
  rw [codeB_nil]
  simp [Lk]
 | succ N ih=>
  intro ss hl h l h0
  cases ss with
  | nil=>rw [codeB_nil];simp [Lk]
  | cons s r=>
   simp only [l_c] at hl
   rw [codeB_cons]
   have h1:=ih (r.take s.thn.toNat) (by simp;omega) (fun x hx=>h x (by simp [List.mem_of_mem_take hx]))
   have h2:=ih ((r.drop s.thn.toNat).take s.els.toNat) (by simp;omega) (fun x hx=>h x (by simp [List.mem_of_mem_drop (List.mem_of_mem_take hx)]))
   have h3:=ih (r.drop (s.thn.toNat+s.els.toNat)) (by simp;omega) (fun x hx=>h x (by simp [List.mem_of_mem_drop hx]))
   obtain ⟨a1,a2⟩:=codeS_bl E en s _ _ hen (h s (by simp)).1 (h s (by simp)).2 h1 h2 l h0
   obtain ⟨b1,b2⟩:=h3 (codeS E en s (codeB E en (r.take s.thn.toNat)) (codeB E en ((r.drop s.thn.toNat).take s.els.toNat)) l).2 (by omega)
   refine ⟨by omega,fun M hF hM => ?_⟩
   rw [lk_app]
   exact ⟨a2 M hF (by omega),b2 M hF hM⟩
theorem fnumG_bd (fs:List Fu) (s:ByteArray) : -1<=fnumG fs s/\fnumG fs s<=fs.length:=by
 unfold fnumG
 split
 ·rename_i i h
  have:=fnum_lt h
  omega
 ·omega
theorem codeT_lk {t:Tr} (h : ∀f∈t.funcs,FnOkG f) (hl:t.funcs.length<=50) : ∀(k:Nat),k<=t.funcs.length->Lk 1000000 (codeT t k t.funcs.length).1
 | 0,_=>by
  have:=fnumG_bd t.funcs mainS
  simp only [codeT,lk_cons,lk_nil,markI,insI]
  exact ⟨by omega,by omega,by omega,trivial⟩
 | k+1,hk=>by
  obtain ⟨-,a2,a3⟩:=codeT_bd h k t.funcs.length (by omega)
  have hm:t.funcs.getD k ⟨⟨#[]⟩,[],[]⟩∈t.funcs:=by
   rw [List.getD_eq_getElem?_getD,List.getElem?_eq_getElem (by omega)]
   exact List.getElem_mem (by omega)
  have hf:=h _ hm
  obtain ⟨-,b2,b3⟩:=hf.code t k (codeT t k t.funcs.length).2
  have hE : ∀s,-1<=(envF t (t.funcs.getD k ⟨⟨#[]⟩,[],[]⟩)).fn s/\(envF t (t.funcs.getD k ⟨⟨#[]⟩,[],[]⟩)).fn s<=1000000:=fun s=>by
   have:=fnumG_bd t.funcs s
   simp only [envF]
   omega
  obtain ⟨c1,c2⟩:=codeB_bl (envF t (t.funcs.getD k ⟨⟨#[]⟩,[],[]⟩)) (F:=1000000) (codeT t k t.funcs.length).2 (by omega) _ (t.funcs.getD k ⟨⟨#[]⟩,[],[]⟩).body (Nat.le_refl _) (fun s hs=>⟨code_cl _ hE (hf.st s hs).one,fun h3=>code_cl _ hE ((hf.st s hs).two h3)⟩) ((codeT t k t.funcs.length).2+1) (by omega)
  simp only [codeT,lk_app]
  refine ⟨codeT_lk h hl k (by omega),?_⟩
  have hb:(codeF t k (t.funcs.getD k ⟨⟨#[]⟩,[],[]⟩) (codeT t k t.funcs.length).2).2<=1000000:=by omega
  simp only [codeF] at hb
  simp only [codeF,lk_app,lk_cons,lk_nil,markI,insI]
  exact ⟨⟨⟨⟨by omega,by omega,by omega,trivial⟩,(l0_par _).lk (by omega)⟩,c2 _ (by omega) hb⟩,by omega,by omega,by omega,by omega,by omega,trivial⟩
theorem genE_lk (t:Tr):Lk 1000000 (genE t):=by
 unfold genE
 split
 ·simp [Lk]
 ·rename_i h
  obtain ⟨hck,-⟩:=bound_ok h
  obtain ⟨-,hl,-,hfn⟩:=fnOkG (sound_nodup hck).1
  exact codeT_lk hfn hl _ (Nat.le_refl _)
theorem genE_len (t:Tr):(genE t).length<=4000000:=by
 unfold genE
 split
 ·simp
 ·rename_i h
  obtain ⟨hck,-⟩:=bound_ok h
  obtain ⟨-,hl,-,hfn⟩:=fnOkG (sound_nodup hck).1
  have:=(codeT_bd hfn t.funcs.length t.funcs.length (Nat.le_refl _)).1
  omega
end
end Go.Proofs.YtpdndlghjldhjaaGreat
