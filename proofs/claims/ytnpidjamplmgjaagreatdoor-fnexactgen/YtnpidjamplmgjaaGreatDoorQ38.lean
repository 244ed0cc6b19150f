import Derived.Test.YtnpidjamplmgjaaGreatDoorQ37
set_option linter.unusedSectionVars false
variable [Inhabited Go.Proofs.YtnpidjamplmgjaaGreatDoor.Pick]
namespace Go.Proofs.YtnpidjamplmgjaaGreatDoor
open Go.RowKit
set_option linter.unusedVariables false
set_option linter.unusedSimpArgs false
set_option maxRecDepth 100000
set_option maxHeartbeats 16000000
theorem exprS_step (C:GC) (hC:C.Ok) (e:List Nd) (A:Nat) (b:Nat->Nat) (G:Nat->Cod) (hc0:Cut e A b) (hl1:e.length<=1048576) (hbd : ∀i,i<A->CB (kid e b i).length (G i)) (hX : ∀i,i<A->ExprS C (kid e b i) (G i)):ExprS C e (genN C.E (rootN e) A G):=by
 have hk:=kind_good hc0.root_good
 have:(rootN e).kind=1∨(rootN e).kind=2∨(rootN e).kind=3∨(rootN e).kind=4∨(rootN e).kind=5∨(rootN e).kind=6∨(rootN e).kind=7∨(rootN e).kind=8∨(rootN e).kind=9:=by omega
 exact exprS_kind C hC e A b G hc0 hl1 hbd hX this
theorem exprS_any (C:GC) (hC:C.Ok) (N:Nat) : ∀e:List Nd,e.length<=N->N<=1048576->oneB e=true->∃g,EA (genN C.E) e g/\CB e.length g/\ExprS C e g:=by
 induction N with
 | zero=>intro e hl _ h;have:=one_pos h;omega
 | succ N ih=>
  intro e hl hN h
  obtain ⟨A,b,hc,hk⟩:=one_cuts h
  have h0 : ∀i,∃g,i<A->EA (genN C.E) (kid e b i) g/\CB (kid e b i).length g/\ExprS C (kid e b i) g:=by
   intro i
   by_cases hi:i<A
   ·obtain ⟨g,hg⟩:=ih (kid e b i) (by have:=hc.kid_lt i hi;omega) o_ (hk i hi)
    exact ⟨g,fun _=>hg⟩
   ·exact ⟨fun _ l=>([],l),fun h=>absurd h hi⟩
  refine ⟨_,EA.cut (gen_own C.E) hc (G:=fun i=>(h0 i).choose) (fun i hi=>((h0 i).choose_spec hi).1),?_,exprS_step C hC e A b _ hc o_ (fun i hi=>((h0 i).choose_spec hi).2.1) (fun i hi=>((h0 i).choose_spec hi).2.2)⟩
  rw [<-cut_len hc]
  exact gen_cb C.E hc.root_good hc.ar (F:=kid e b) (fun i hi=>((h0 i).choose_spec hi).2.1)
theorem exprS_code (C:GC) (hC:C.Ok) {e:List Nd} (hl:e.length<=1048576) (h:oneB e=true):CB e.length (codeE C.E e)/\ExprS C e (codeE C.E e):=by
 obtain ⟨g,h1,h2,h3⟩:=exprS_any C hC e.length e (Nat.le_refl _) hl h
 unfold codeE
 rw [h1.eq]
 exact ⟨h2,h3⟩
def BlkC (C:GC) (v:Value) (g:Blk) (k:Nat):Prop:=SB k g/\∀(w:World) (its:List It) (l:Int),Gs C w its l->0<=l->l+2*k<=100000000->its.length+24*k<=8000000->Calls Tryz.prog 40 #[.pointer (some ⟨C.P,0,none⟩),v] w fun x w'=>(∃u,x = .returned u)/\Wd C w its (g l).1 (g l).2 w'
end Go.Proofs.YtnpidjamplmgjaaGreatDoor
