import Derived.Test.YtnpidjamplmgjaaGreatDoorQ19
set_option linter.unusedSectionVars false
variable [Inhabited Go.Proofs.YtnpidjamplmgjaaGreatDoor.Pick]
namespace Go.Proofs.YtnpidjamplmgjaaGreatDoor
open Go.RowKit
set_option linter.unusedVariables false
set_option linter.unusedSimpArgs false
set_option maxRecDepth 100000
set_option maxHeartbeats 16000000
structure StK (C:IC) (s:St):Prop where
 b:stmtB s=true
 e:s.e.length<=2000
 f:s.f.length<=2000
 kn:KnS C.t C.ns s
theorem StK.one {C:IC} {s:St} (h:StK C s):oneB s.e=true:=by
 have:=h.b
 unfold stmtB at this
 simp only [Bool.and_eq_true] at this
 exact this.1.1.1.1.2
theorem StK.two {C:IC} {s:St} (h:StK C s) (hk:s.kind=3):oneB s.f=true:=by
 have:=h.b
 unfold stmtB at this
 simp only [Bool.and_eq_true,if_pos hk] at this
 exact this.1.1.1.2
theorem StK.name {C:IC} {s:St} (h:StK C s) (hk:s.kind<=3):s.name.size<=maxLen:=by
 have:=h.b
 unfold stmtB at this
 simp only [Bool.and_eq_true,if_pos hk] at this
 have hn:nameB s.name=true:=this.1.1.1.1.1.2
 have hp:nameP s.name:=by simpa [nameB] using hn
 have:=hp.2.1
 unfold maxLen
 omega
theorem StK.nodes {C:IC} {s:St} (h:StK C s) : ∀n∈s.e,NdOk C n:=fun n hn=>⟨one_good h.one n hn,h.kn.e n hn⟩
theorem StK.nodesF {C:IC} {s:St} (h:StK C s) (hk:s.kind=3) : ∀n∈s.f,NdOk C n:=fun n hn=>⟨one_good (h.two hk) n hn,h.kn.f n hn⟩
theorem StK.sb {C:IC} {r:List St} (h : ∀s∈r,StK C s):SB (szLs r) (codeB C.E C.en r):=codeB_sb C.E C.en r.length r (Nat.le_refl _) (fun s hs=>⟨code_cb C.E (h s hs).one,fun h3=>code_cb C.E ((h s hs).two h3)⟩)
theorem sz_one (s:St):szLs [s]=s.e.length+s.f.length+1:=by rw [szLs_cons];simp [szLs,nodeSum]
theorem blkI_args (C:IC) (A:Nat) (vs:Nat->Value) (F:Nat->List St) (va:Value) (hA:Args C.w0 C.S va A vs) (hI : ∀i,i<A->∃t x,vs i = .iface t x) (hSt : ∀i,i<A->StI C (vs i) (codeB C.E C.en (F i)) (szLs (F i))) (hfit : ∀i,i<A->fitB (F i)=true) (hsb : ∀i,i<=A->SB (szLs (joinS F i)) (codeB C.E C.en (joinS F i))):BlkI C va (codeB C.E C.en (joinS F A)) (szLs (joinS F A)):=by
 refine ⟨hsb A (Nat.le_refl _),?_⟩
 intro w its l hG hl0 hl2 hil
 have HG:=hide hG
 obtain ⟨a,cap,rfl,hc1,hc2,hc⟩:=hA
 have HK:=hide hc
 have HI:=hide hI
 have HX:=hide hSt
 have HFt:=hide hfit
 have HSb:=hide hsb
 have HLe:Hid (∀i,i<A->szLs (joinS F i)+szLs (F i)<=szLs (joinS F A)):=fun i hi=>by
  have : ∀B,i<B->szLs (joinS F i)+szLs (F i)<=szLs (joinS F B):=by
   intro B hB
   induction B with
   | zero=>omega
   | succ B ih=>
    simp only [joinS,szLs_append]
    by_cases e:i=B
    ·subst e;omega
    ·have:=ih o_;omega
  exact this A hi
 obtain ⟨R,hR⟩ : ∃R,R=codeB C.E C.en (joinS F A) l:=⟨_,rfl⟩
 rw [<-hR]
 have HR0:=hide hR
 obtain ⟨Z,hZ⟩ : ∃Z,Z=szLs (joinS F A):=⟨_,rfl⟩
 rw [<-hZ] at hl2 hil HLe
 go_enter Tryz.func54,Tryz.ntmps54
 go_wp2_with fail
 go_loopw [8] (fun i wr=>∃k:Nat,k<=A/\i = .int .i64 k/\Wi C w its (codeB C.E C.en (joinS F k) l).1 (codeB C.E C.en (joinS F k) l).2 wr) (fun i _=>A-(RowKit.intOf i).toNat)
 case atStart=>exact ⟨0,Nat.zero_le _,rfl,Wi.nil HG.out⟩
 case round=>
  obtain ⟨k,hk,rfl,hW⟩:=hrel
  have HW:=hide hW
  by_cases hlt:k<A
  ·obtain ⟨B,rfl,hSB,hkc⟩:=HK.out o_
   obtain ⟨tk,xk,hvk⟩:=HI.out k hlt
   have d0:=HW.out.gs.cell hSB (hkc k hlt)
   rw [hvk] at d0
   have hj:=HLe.out k hlt
   obtain ⟨b1,b2,b3⟩:=HSb.out k hk l
   have HCk:Hid (Calls Tryz.prog 80 #[.pointer (some ⟨C.P,0,none⟩),.iface tk xk] wr fun x w'=>(∃u,x = .returned u)/\Wi C w its (codeB C.E C.en (joinS F (k+1)) l).1 (codeB C.E C.en (joinS F (k+1)) l).2 w'):=by
    have h:=HX.out k hlt
    rw [hvk] at h
    refine (h.2 wr _ _ HW.out.gs o_ o_ (by simp only [l_a];omega)).mono ?_
    rintro x w' ⟨hu,hw'⟩
    refine ⟨hu,?_⟩
    have e:codeB C.E C.en (joinS F (k+1)) l=_:=codeB_append C.E C.en _ (joinS F k) (F k) l (Nat.le_refl _) (joinS_fit k (fun i hi=>HFt.out i o_))
    rw [e]
    exact HW.out.trans hw'
   go_wp2_with fail
   refine HCk.out.mono ?_
   rintro x w2 ⟨⟨u,rfl⟩,hw2⟩
   have HR:=hide hw2
   go_wp2_with fail
   go_roundw
   case rel=>exact ⟨k+1,by omega,by go_num,HR.out⟩
   case measure=>simp [RowKit.intOf];omega
  ·obtain rfl:k=A:=by omega
   go_wp2_with fail
   exact bodyPost_end (v:=.tuple #[]) (by simp [results,Tryz.results54,go_sem]) rfl ⟨⟨_,rfl⟩,by rw [HR0.out];exact HW.out⟩
theorem st_if (C:IC) (t0:TypeId) (y0:Value) (aa:Option Addr) (na ca:Nat) (ab:Option Addr) (nb cb:Nat) (g:Blk) (k:Nat) (hb:SB k g) (hP : ∀(w:World) (its:List It) (l:Int),Gi C w its l->0<=l->l+2*k<=100000000->its.length+24*k<=8000000->Calls Tryz.prog 105 #[.pointer (some ⟨C.P,0,none⟩),.agg #[.iface t0 y0,.slice aa na ca,.slice ab nb cb]] w fun x w'=>(∃u,x = .returned u)/\Wi C w its (g l).1 (g l).2 w'):StI C (.iface 174 (.agg #[.iface t0 y0,.slice aa na ca,.slice ab nb cb])) g k:=by
 refine ⟨hb,?_⟩
 intro w its l hG hl0 hl2 hil
 have hA : ∀o,Bl w (w.alloc o):=fun o=>(Below.refl _ _).alloc (Nat.le_refl _) o
 have HP:Hid (∀o,Calls Tryz.prog 105 #[.pointer (some ⟨C.P,0,none⟩),.agg #[.iface t0 y0,.slice aa na ca,.slice ab nb cb]] (w.alloc o) fun x w'=>(∃u,x = .returned u)/\Wi C w its (g l).1 (g l).2 w'):=fun o=>(hP (w.alloc o) its l (hG.below (hA o)) hl0 hl2 hil).mono (fun _ _ h=>⟨h.1,Wi.preB hG (hA o) h.2⟩)
 have y1:=sa_if_yes
 clear hP hG hb hA
 go_enter Tryz.func80,Tryz.ntmps80
 go_wp2_with fail
 refine (HP.out _).mono ?_
 rintro x w1 ⟨⟨u,rfl⟩,hw⟩
 have HW:=hide hw
 clear hw HP y1
 go_wp2_with fail
 exact bodyPost_end (v:=.tuple #[]) (by simp [results,Tryz.results80,go_sem]) rfl ⟨⟨_,rfl⟩,HW.out⟩
theorem st_while (C:IC) (t0:TypeId) (y0:Value) (aa:Option Addr) (na ca:Nat) (g:Blk) (k:Nat) (hb:SB k g) (hP : ∀(w:World) (its:List It) (l:Int),Gi C w its l->0<=l->l+2*k<=100000000->its.length+24*k<=8000000->Calls Tryz.prog 106 #[.pointer (some ⟨C.P,0,none⟩),.agg #[.iface t0 y0,.slice aa na ca]] w fun x w'=>(∃u,x = .returned u)/\Wi C w its (g l).1 (g l).2 w'):StI C (.iface 177 (.agg #[.iface t0 y0,.slice aa na ca])) g k:=by
 refine ⟨hb,?_⟩
 intro w its l hG hl0 hl2 hil
 have hA : ∀o,Bl w (w.alloc o):=fun o=>(Below.refl _ _).alloc (Nat.le_refl _) o
 have HP:Hid (∀o,Calls Tryz.prog 106 #[.pointer (some ⟨C.P,0,none⟩),.agg #[.iface t0 y0,.slice aa na ca]] (w.alloc o) fun x w'=>(∃u,x = .returned u)/\Wi C w its (g l).1 (g l).2 w'):=fun o=>(hP (w.alloc o) its l (hG.below (hA o)) hl0 hl2 hil).mono (fun _ _ h=>⟨h.1,Wi.preB hG (hA o) h.2⟩)
 have y0:=fun W v=>sa_if_no W 177 v (by decide)
 have y1:=sa_while_yes
 clear hP hG hb hA
 go_enter Tryz.func80,Tryz.ntmps80
 go_wp2_with fail
 refine (HP.out _).mono ?_
 rintro x w1 ⟨⟨u,rfl⟩,hw⟩
 have HW:=hide hw
 clear hw HP y0 y1
 go_wp2_with fail
 exact bodyPost_end (v:=.tuple #[]) (by simp [results,Tryz.results80,go_sem]) rfl ⟨⟨_,rfl⟩,HW.out⟩
theorem kn_mem {C:IC} {s:ByteArray} (h:s∈C.ns∨0<=globI C.t.globals s):C.E.loc s=none->s∈C.t.globals.map (·.name):=fun hl=>by
 rcases h with h | h
 ·exact absurd h (loc_none_mem hl)
 ·exact globI_mem h
theorem Args.sl {w:World} {S:Nat->Prop} {v:Value} {A:Nat} {vs:Nat->Value} (h:Args w S v A vs) : ∃a c,v = .slice a A c:=by
 obtain ⟨a,c,rfl,_⟩:=h
 exact ⟨a,c,rfl⟩
theorem joinS_mem {F:Nat->List St} {s:St} : ∀ {A i:Nat},i<A->s∈F i->s∈joinS F A
 | 0,i,h,_=>absurd h (Nat.not_lt_zero _)
 | A+1,i,h,hs=>by
  simp only [joinS,List.mem_append]
  by_cases e:i=A
  ·subst e;exact .inr hs
  ·exact .inl (joinS_mem o_ hs)
theorem joinS_sub {F : Nat → List St} {s : St} : ∀ {A B : Nat}, A ≤ B → s ∈ joinS F A → s ∈ joinS F B
  | A, 0, h, hs => by obtain rfl : A = 0 := by omega
                      exact hs
  | A, B + 1, h, hs => by
    by_cases e : A = B + 1
    · subst e; exact hs
    · simp only [joinS, List.mem_append]; exact .inl (joinS_sub o_ hs)
theorem stI_any (C:IC) (hC:C.Ok) {v:Value} {r:List St} (h:Bv C.w0 C.S v r) (hk : ∀s∈r,StK C s) (hr:r.length<=1000):StI C v (codeB C.E C.en r) (szLs r):=by
 induction h using Bv_i with
 | decl s x h1 h2 h3 h4=>
  obtain ⟨t,y,rfl⟩:=h2.isI
  have hs:=hk s (by simp)
  obtain ⟨e1,e2⟩:=exprI_code C hC h2 hs.nodes
  refine st_plain C _ _ _ _ (by decide) (by decide) (StK.sb hk) ?_
  intro w its l hG hl0 hl2 hil
  rw [sz_one] at hl2 hil
  have:=plain_decl C hC s.name t y _ _ e2 e1 hs.e (hs.name o_) (kn_mem (.inl (hs.kn.decl h1))) w its l hG hl0 o_ o_
  rw [codeB_one]
  simpa [codeS,h1] using this
 | set s x h1 h2 h3 h4=>
  obtain ⟨t,y,rfl⟩:=h2.isI
  have hs:=hk s (by simp)
  obtain ⟨e1,e2⟩:=exprI_code C hC h2 hs.nodes
  refine st_plain C _ _ _ _ (by decide) (by decide) (StK.sb hk) ?_
  intro w its l hG hl0 hl2 hil
  rw [sz_one] at hl2 hil
  have:=plain_set C hC s.name t y _ _ e2 e1 hs.e (hs.name o_) (kn_mem (hs.kn.set h1)) w its l hG hl0 o_ o_
  rw [codeB_one]
  simpa [codeS,h1] using this
 | store s x y h1 h2 h3 h4 h5=>
  obtain ⟨t,x,rfl⟩:=h2.isI
  obtain ⟨u,y,rfl⟩:=h3.isI
  have hs:=hk s (by simp)
  obtain ⟨e1,e2⟩:=exprI_code C hC h2 hs.nodes
  obtain ⟨f1,f2⟩:=exprI_code C hC h3 (hs.nodesF h1)
  refine st_plain C _ _ _ _ (by decide) (by decide) (StK.sb hk) ?_
  intro w its l hG hl0 hl2 hil
  rw [sz_one] at hl2 hil
  have:=plain_store C hC s.name t x _ _ e2 e1 hs.e u y _ _ f2 f1 hs.f (hs.name o_) (globI_mem (hs.kn.store h1)) w its l hG hl0 o_ o_
  rw [codeB_one]
  simpa [codeS,h1] using this
 | ret s x h1 h2 h3 h4=>
  obtain ⟨t,y,rfl⟩:=h2.isI
  have hs:=hk s (by simp)
  obtain ⟨e1,e2⟩:=exprI_code C hC h2 hs.nodes
  refine st_plain C _ _ _ _ (by decide) (by decide) (StK.sb hk) ?_
  intro w its l hG hl0 hl2 hil
  rw [sz_one] at hl2 hil
  have:=plain_return C hC t y _ _ e2 e1 hs.e w its l hG hl0 o_ o_
  rw [codeB_one]
  simpa [codeS,h1] using this
 | out s x h1 h2 h3 h4=>
  obtain ⟨t,y,rfl⟩:=h2.isI
  have hs:=hk s (by simp)
  obtain ⟨e1,e2⟩:=exprI_code C hC h2 hs.nodes
  refine st_plain C _ _ _ _ (by decide) (by decide) (StK.sb hk) ?_
  intro w its l hG hl0 hl2 hil
  rw [sz_one] at hl2 hil
  have:=plain_out C hC t y _ _ e2 e1 hs.e w its l hG hl0 o_ o_
  rw [codeB_one]
  simpa [codeS,h1] using this
 | call s x h1 h2 h3 h4=>
  obtain ⟨t,y,rfl⟩:=h2.isI
  have hs:=hk s (by simp)
  obtain ⟨e1,e2⟩:=exprI_code C hC h2 hs.nodes
  refine st_plain C _ _ _ _ (by decide) (by decide) (StK.sb hk) ?_
  intro w its l hG hl0 hl2 hil
  rw [sz_one] at hl2 hil
  have:=plain_call C hC t y _ _ e2 e1 hs.e w its l hG hl0 o_ o_
  rw [codeB_one]
  simpa [codeS,h1] using this
 | ifs s x va vb A B vs us F H h1 h2 h3 h4 h5 h6 h7 h8 ih1 ih2=>
  obtain ⟨t,y,rfl⟩:=h2.isI
  have hs:=hk s (by simp)
  obtain ⟨e1,e2⟩:=exprI_code C hC h2 hs.nodes
  obtain ⟨aa,ca,rfl⟩:=h3.sl
  obtain ⟨ab,cb,rfl⟩:=h5.sl
  simp only [List.cons_append,l_c,l_a] at hr
  have hkA : ∀z∈joinS F A,StK C z:=fun z hz=>hk z (by simp [hz])
  have hkB : ∀z∈joinS H B,StK C z:=fun z hz=>hk z (by simp [hz])
  have hlA : ∀i,i<A->(F i).length<=(joinS F A).length:=fun i hi=>by
   have : ∀D,i<D->(F i).length<=(joinS F D).length:=by
    intro D hD
    induction D with
    | zero=>omega
    | succ D ih=>
     simp only [joinS,l_a]
     by_cases e:i=D
     ·subst e;omega
     ·have:=ih o_;omega
   exact this A hi
  have hlB : ∀i,i<B->(H i).length<=(joinS H B).length:=fun i hi=>by
   have : ∀D,i<D->(H i).length<=(joinS H D).length:=by
    intro D hD
    induction D with
    | zero=>omega
    | succ D ih=>
     simp only [joinS,l_a]
     by_cases e:i=D
     ·subst e;omega
     ·have:=ih o_;omega
   exact this B hi
  have bA:=blkI_args C A vs F _ h3 (fun i hi=>(h4 i hi).isI) (fun i hi=>ih1 i hi (fun z hz=>hkA z (joinS_mem hi hz)) (by have:=hlA i hi;omega)) (fun i hi=>(h4 i hi).fit) (fun i hi=>StK.sb (fun z hz=>hkA z (joinS_sub hi hz)))
  have bB:=blkI_args C B us H _ h5 (fun i hi=>(h6 i hi).isI) (fun i hi=>ih2 i hi (fun z hz=>hkB z (joinS_mem hi hz)) (by have:=hlB i hi;omega)) (fun i hi=>(h6 i hi).fit) (fun i hi=>StK.sb (fun z hz=>hkB z (joinS_sub hi hz)))
  have hBl:=joinS_len B (fun i hi=>(h6 i hi).pos)
  refine st_if C _ _ _ _ _ _ _ _ _ _ (StK.sb hk) ?_
  intro w its l hG hl0 hl2 hil
  have hsz:szLs (s::joinS F A++joinS H B)=s.e.length+s.f.length+1+(szLs (joinS F A)+szLs (joinS H B)):=by rw [List.cons_append,szLs_cons,szLs_append]
  rw [hsz] at hl2 hil
  rw [codeB_two C.E C.en h7 h8]
  by_cases hB0:B=0
  ·subst hB0
   have:=fork_one C hC t y _ _ e2 e1 hs.e aa A ca _ _ bA ab 0 cb _ _ bB w its l hG hl0 o_ o_ rfl
   have hel : ¬(0<s.els):=by rw [h8];simp [joinS]
   simpa [codeS,h1,hel] using this
  ·have:=fork_two C hC t y _ _ e2 e1 hs.e aa A ca _ _ bA ab B cb _ _ bB w its l hG hl0 o_ o_ o_ o_
   have hel:0<s.els:=by rw [h8];omega
   simpa [codeS,h1,hel] using this
 | whil s x va A vs F h1 h2 h3 h4 h5 h6 ih=>
  obtain ⟨t,y,rfl⟩:=h2.isI
  have hs:=hk s (by simp)
  obtain ⟨e1,e2⟩:=exprI_code C hC h2 hs.nodes
  obtain ⟨aa,ca,rfl⟩:=h3.sl
  simp only [l_c] at hr
  have hkA : ∀z∈joinS F A,StK C z:=fun z hz=>hk z (by simp [hz])
  have hlA : ∀i,i<A->(F i).length<=(joinS F A).length:=fun i hi=>by
   have : ∀D,i<D->(F i).length<=(joinS F D).length:=by
    intro D hD
    induction D with
    | zero=>omega
    | succ D ih=>
     simp only [joinS,l_a]
     by_cases e:i=D
     ·subst e;omega
     ·have:=ih o_;omega
   exact this A hi
  have bA:=blkI_args C A vs F _ h3 (fun i hi=>(h4 i hi).isI) (fun i hi=>ih i hi (fun z hz=>hkA z (joinS_mem hi hz)) (by have:=hlA i hi;omega)) (fun i hi=>(h4 i hi).fit) (fun i hi=>StK.sb (fun z hz=>hkA z (joinS_sub hi hz)))
  refine st_while C _ _ _ _ _ _ _ (StK.sb hk) ?_
  intro w its l hG hl0 hl2 hil
  have hsz:szLs (s::joinS F A)=s.e.length+s.f.length+1+szLs (joinS F A):=by rw [szLs_cons]
  rw [hsz] at hl2 hil
  have e0:=codeB_two C.E C.en (s:=s) (a:=joinS F A) (b:=[]) h5 (by simpa using h6) l
  rw [List.append_nil] at e0
  rw [e0]
  have:=loopI C hC t y _ _ e2 e1 hs.e aa A ca _ _ bA w its l hG hl0 o_ o_
  simpa [codeS,h1] using this
theorem blkI_any (C:IC) (hC:C.Ok) {v:Value} {ss:List St} (h:Bk C.w0 C.S v ss) (hk : ∀s∈ss,StK C s) (hr:ss.length<=1000):BlkI C v (codeB C.E C.en ss) (szLs ss):=by
 obtain ⟨A,vs,F,h1,h2,rfl⟩:=h
 have hlA : ∀i,i<A->(F i).length<=(joinS F A).length:=fun i hi=>by
  have : ∀D,i<D->(F i).length<=(joinS F D).length:=by
   intro D hD
   induction D with
   | zero=>omega
   | succ D ih=>
    simp only [joinS,l_a]
    by_cases e:i=D
    ·subst e;omega
    ·have:=ih o_;omega
  exact this A hi
 exact blkI_args C A vs F _ h1 (fun i hi=>(h2 i hi).isI) (fun i hi=>stI_any C hC (h2 i hi) (fun z hz=>hk z (joinS_mem hi hz)) (by have:=hlA i hi;omega)) (fun i hi=>(h2 i hi).fit) (fun i hi=>StK.sb (fun z hz=>hk z (joinS_sub hi hz)))
def totB:List Gl->Int
 | []=>0
 | g::r=>4*max 1 g.size+totB r
theorem totB_append (a b:List Gl):totB (a++b)=totB a+totB b:=by
 induction a with
 | nil=>simp [totB]
 | cons g r ih=>simp only [List.cons_append,totB,ih];omega
theorem totB_bd {l:List Gl} (hz : ∀g∈l,0<=g.size/\g.size<=4000):0<=totB l/\totB l<=16000*l.length:=by
 induction l with
 | nil=>simp [totB]
 | cons g r ih=>
  have h1:=hz g (by simp)
  have h2:=ih (fun x hx=>hz x (by simp [hx]))
  simp only [totB,l_c]
  omega
theorem globA_old {l r:List Gl} {s:ByteArray} : ∀ {a:Int},s∈l.map (·.name)->globA (l++r) s a=globA l s a:=by
 induction l with
 | nil=>intro a h;simp at h
 | cons g l ih=>
  intro a h
  by_cases e:g.name=s
  ·simp [globA,e]
  ·simp only [List.cons_append,globA,if_neg e]
   refine ih ?_
   simp only [List.map_cons,List.mem_cons] at h
   rcases h with h | h
   ·exact absurd h.symm e
   ·exact h
theorem globA_new {l r:List Gl} {s:ByteArray} : ∀ {a:Int},s∉l.map (·.name)->globA (l++r) s a=globA r s (a+totB l):=by
 induction l with
 | nil=>intro a h;simp [totB]
 | cons g l ih=>
  intro a h
  simp only [List.map_cons,List.mem_cons,not_or] at h
  simp only [List.cons_append,globA,if_neg (Ne.symm h.1),totB]
  rw [ih h.2]
  congr 1
  omega
theorem AddrIs.nil:AddrIs (.map []) []:=⟨Maps.isMap_empty,fun s h=>by simp at h⟩
theorem AddrIs.put {D:DataW Unit} {l:List Gl} {g:Gl} (h:AddrIs D l) (hn:g.name∉l.map (·.name)):AddrIs (D.put (kS g.name) (.lit (.int .i64 (1048576+totB l)))) (l++[g]):=by
 refine ⟨h.map.put _ _,fun s hs => ?_⟩
 by_cases e:g.name=s
 ·subst e
  rw [Maps.atKey_put_same (k:=kS g.name) h.map trivial,globA_new hn]
  simp [globA]
 ·rw [Maps.atKey_put_other (kS_ne (Ne.symm e))]
  have hm:s∈l.map (·.name):=by
   simp only [List.map_append,List.mem_append,List.map_cons,List.map_nil,List.mem_cons,List.not_mem_nil,or_false] at hs
   rcases hs with hs | hs
   ·exact hs
   ·exact absurd hs.symm e
  rw [globA_old hm]
  exact h.val s hm
theorem addresses_any (gs:List Gl) (vg:Value) (w:World) (hg:Globs w vg gs) (hl:gs.length<=50) (hz : ∀g∈gs,0<=g.size/\g.size<=4000) (hnd:(gs.map (·.name)).Nodup) (hsz : ∀g∈gs,g.name.size<=maxLen) :
  Calls Tryz.prog 23 #[vg] w fun e w'=>∃(b:Nat) (z:Int),e = .returned (.tuple #[.map (some b),.int .i64 z])/\Below w.heap.size w w'/\w.heap.size<=b/\∃nn D,w'.ownsMap Tryz.prog 9 (plainElem (H:=Unit) Tryz.prog 2) b nn D/\AddrIs D gs:=by
 obtain ⟨a,c,rfl,hc1,hc2,hc⟩:=hg
 have HC:=hide hc
 have HZ:=hide hz
 have HND:=hide hnd
 have HSZ:=hide hsz
 have HO0:=hide (World.ownsMap_made w Tryz.prog 9 (plainElem (H:=Unit) Tryz.prog 2))
 have HB0:Hid (Bl w (w.alloc (.map #[] 0))):=bel_a _ _
 have hmm := @run_makeMap Tryz.prog
 clear hc hz hnd hsz
 go_enter Tryz.func23,Tryz.ntmps23
 go_wp2_with fail
 clear hmm
 go_loopw [3,9] (fun p i wr=>∃(k:Nat) (D:DataW Unit),k<=gs.length/\i = .int .i64 k/\p = .int .i64 (totB (gs.take k))/\wr.ownsMap Tryz.prog 9 (plainElem (H:=Unit) Tryz.prog 2) w.heap.size k D/\AddrIs D (gs.take k)/\Bl w wr) (fun _ i _=>gs.length-(RowKit.intOf i).toNat)
 case atStart=>exact ⟨0,_,Nat.zero_le _,rfl,rfl,HO0.out,AddrIs.nil,HB0.out⟩
 case round=>
  clear HO0 HB0
  obtain ⟨k,D,hk,rfl,rfl,hO,hA,hB⟩:=hrel
  by_cases hlt:k<gs.length
  ·obtain ⟨b',off,rfl,hcc⟩:=HC.out o_
   obtain ⟨d0,d1⟩:=hcc.below hB k hlt
   have hmem:gs[k]∈gs:=List.getElem_mem hlt
   have hzk:=HZ.out _ hmem
   have hsk:=HSZ.out _ hmem
   have htk:gs.take (k+1)=gs.take k++[gs[k]]:=List.take_succ_eq_append_getElem hlt
   have hnk:gs[k].name∉(gs.take k).map (·.name):=by
    intro hm
    obtain ⟨g,hg,he⟩:=List.mem_map.1 hm
    obtain ⟨j,hj,rfl⟩:=List.getElem_of_mem hg
    rw [List.getElem_take] at he
    simp at hj
    have h1:=List.pairwise_iff_getElem.1 HND.out j k (by simp;omega) (by simpa using hlt) o_
    simp only [List.getElem_map] at h1
    exact h1 he
   have htb:=totB_bd (l:=gs.take k) (fun g hg=>HZ.out g (List.mem_of_mem_take hg))
   have hlk:(gs.take k).length=k:=by simp;omega
   have hT:totB (gs.take (k+1))=totB (gs.take k)+4*max 1 gs[k].size:=by rw [htk,totB_append];simp [totB]
   have HA1:Hid (AddrIs (D.put (kS gs[k].name) (.lit (.int .i64 (1048576+totB (gs.take k))))) (gs.take (k+1))):=by
    show AddrIs _ _
    rw [htk]
    exact hA.put hnk
   have hOa:=hO.alloc (.cells #[.string gs[k].name,.int .i64 gs[k].size] 90)
   obtain ⟨w5,hrun,hown5,hgrow5⟩:=hOa.update (Maps.string_keyed Tryz.underlying9) Tryz.underlying52 (by unfold maxLen;omega) (WideMaps.keyOf_string_mk Tryz.underlying9 hsk) (plainElem_int (H:=Unit) Tryz.underlying2 (a:=1048576+totB (gs.take k)) (WalkArith.wf_i64 o_))
   have hbl:=hO.lt
   have hBa:Bl w (wr.alloc (.cells #[.string gs[k].name,.int .i64 gs[k].size] 90)):=hB.alloc hB.size _
   have hB5:Bl w w5:=hBa.grown hgrow5 hBa.size (fun j hj=>by cases hj;exact Nat.le_refl _)
   have x1:w5.cell? ⟨wr.heap.size,1,none⟩=some (.int .i64 gs[k].size):=hgrow5.cell (by simp) (by simp;omega)
   have HR:Hid (w5.ownsMap Tryz.prog 9 (plainElem (H:=Unit) Tryz.prog 2) w.heap.size (k+1) _/\AddrIs _ (gs.take (k+1))):=⟨hown5,HA1.out⟩
   clear hown5 hgrow5 hOa hO hA hcc hnk HA1 hBa hmem htk
   generalize gs[k].name=nm at *
   generalize gs[k].size=sz at *
   generalize totB (gs.take k)=tb at *
   obtain ⟨tb2,htb2⟩ : ∃tb2,tb2=totB (gs.take (k+1)):=⟨_,rfl⟩
   rw [<-htb2] at hT
   have HTB:=hide htb2
   clear htb2
   have k1:IntKind.i64.wrap (1048576+tb)=1048576+tb:=by simp [IntKind.wrap,IntKind.bits,IntKind.signed];omega
   by_cases h1:sz<1
   ·have k2:IntKind.i64.wrap (tb+4)=tb2:=by simp [IntKind.wrap,IntKind.bits,IntKind.signed];omega
    clear hT
    go_wp2_with fail
    go_roundw
    case rel=>exact ⟨k+1,_,by omega,by go_num,by rw [HTB.out],HR.out.1,HR.out.2,hB5⟩
    case measure=>simp [RowKit.intOf];omega
   ·have k2:IntKind.i64.wrap (4*sz)=4*sz:=by simp [IntKind.wrap,IntKind.bits,IntKind.signed];omega
    have k3:IntKind.i64.wrap (tb+4*sz)=tb2:=by simp [IntKind.wrap,IntKind.bits,IntKind.signed];omega
    clear hT
    go_wp2_with fail
    go_roundw
    case rel=>exact ⟨k+1,_,by omega,by go_num,by rw [HTB.out],HR.out.1,HR.out.2,hB5⟩
    case measure=>simp [RowKit.intOf];omega
  ·obtain rfl:k=gs.length:=by omega
   have HR:Hid (wr.ownsMap Tryz.prog 9 (plainElem (H:=Unit) Tryz.prog 2) w.heap.size gs.length D/\AddrIs D gs):=by
    rw [List.take_length] at hA
    exact ⟨hO,hA⟩
   clear hO hA
   generalize totB (gs.take gs.length)=tb
   go_wp2_with fail
   exact bodyPost_ret (v:=.tuple #[.map (some w.heap.size),.int .i64 tb]) (by simp [results,Tryz.results23,go_sem]) rfl ⟨_,_,rfl,hB,Nat.le_refl _,_,D,HR.out.1,HR.out.2⟩
end Go.Proofs.YtnpidjamplmgjaaGreatDoor
