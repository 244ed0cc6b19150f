import Derived.Test.YtnpidjamplmgjaaGreatDoorQ12
set_option linter.unusedSectionVars false
variable [Inhabited Go.Proofs.YtnpidjamplmgjaaGreatDoor.Pick]
namespace Go.Proofs.YtnpidjamplmgjaaGreatDoor
open Go.RowKit
set_option linter.unusedVariables false
set_option linter.unusedSimpArgs false
set_option maxRecDepth 100000
set_option maxHeartbeats 16000000
def KnN (t:Tr) (N:List ByteArray) (n:Nd):Prop:=(n.kind=2->n.name∈N∨0<=globI t.globals n.name)/\(n.kind=3->0<=globI t.globals n.name)/\(n.kind=4->∃i,fnum t.funcs n.name=some i)
structure KnS (t:Tr) (N:List ByteArray) (s:St):Prop where
 e : ∀n∈s.e,KnN t N n
 f : ∀n∈s.f,KnN t N n
 decl:s.kind=1->s.name∈N
 set:s.kind=2->s.name∈N∨0<=globI t.globals s.name
 store:s.kind=3->0<=globI t.globals s.name
theorem mem_inS {xs:List ByteArray} {s:ByteArray} (h:inS xs s=true):s∈xs:=by
 unfold inS at h
 rw [List.any_eq_true] at h
 obtain ⟨x,hx,he⟩:=h
 exact (of_decide_eq_true he) ▸ hx
theorem useE_var {gs:List Gl} {sc:List ByteArray} {s:ByteArray} (h:useE gs sc s false=0):s∈sc∨0<=globI gs s:=by
 unfold useE at h
 by_cases hi:inS sc s=true
 ·exact .inl (mem_inS hi)
 ·rw [if_neg hi] at h
  split at h
  ·omega
  ·right;omega
theorem useE_arr {gs:List Gl} {sc:List ByteArray} {s:ByteArray} (h:useE gs sc s true=0):0<=globI gs s:=by
 unfold useE at h
 by_cases hi:inS sc s=true
 ·simp [hi] at h
 ·rw [if_neg hi] at h
  split at h
  ·omega
  ·omega
theorem nodeE_kn {t:Tr} {sc N:List ByteArray} {n:Nd} (h:nodeE t sc n=0) (hs : ∀x∈sc,x∈N):KnN t N n:=by
 unfold nodeE at h
 refine ⟨fun hk => ?_,fun hk => ?_,fun hk => ?_⟩
 ·rw [if_pos (.inl hk)] at h
  have:decide (n.kind=3)=false:=by simp [hk]
  rw [this] at h
  rcases useE_var h with h | h
  ·exact .inl (hs _ h)
  ·exact .inr h
 ·rw [if_pos (.inr hk)] at h
  have:decide (n.kind=3)=true:=by simp [hk]
  rw [this] at h
  exact useE_arr h
 ·rw [if_neg o_,if_pos hk] at h
  cases e:fnum t.funcs n.name with
  | none=>rw [e] at h;simp at h
  | some i=>exact ⟨i,rfl⟩
theorem exprE_kn {t:Tr} {sc N:List ByteArray} (hs : ∀x∈sc,x∈N) : ∀ {e:List Nd},exprE t sc e=0->∀n∈e,KnN t N n
 | [],_,n,hn=>by simp at hn
 | m::r,h,n,hn=>by
  simp only [exprE] at h
  by_cases hm:nodeE t sc m=0
  ·rw [if_pos hm] at h
   rcases List.mem_cons.1 hn with rfl | hn
   ·exact nodeE_kn hm hs
   ·exact exprE_kn hs h n hn
  ·rw [if_neg hm] at h;exact absurd h hm
theorem stmtE_kn {t:Tr} {sc tk N:List ByteArray} {s:St} (h:stmtE t sc tk s=0) (hs : ∀x∈sc,x∈N) (hd:s.kind=1->s.name∈N):KnS t N s:=by
 unfold stmtE at h
 by_cases he:exprE t sc (s.e++s.f)≠0
 ·rw [if_pos he] at h;exact absurd h he
 rw [if_neg he] at h
 have he':exprE t sc (s.e++s.f)=0:=by simpa using he
 have hk:=exprE_kn hs he'
 refine ⟨fun n hn=>hk n (by simp [hn]),fun n hn=>hk n (by simp [hn]),hd,fun hk => ?_,fun hk => ?_⟩
 ·rw [if_neg o_,if_pos (.inl hk)] at h
  have:decide (s.kind=3)=false:=by simp [hk]
  rw [this] at h
  rcases useE_var h with h | h
  ·exact .inl (hs _ h)
  ·exact .inr h
 ·rw [if_neg o_,if_pos (.inr hk)] at h
  have:decide (s.kind=3)=true:=by simp [hk]
  rw [this] at h
  exact useE_arr h
theorem declN_of_mem {s:St} {ss:List St} (h:s∈ss) (h1:s.kind=1):s.name∈declN ss:=by
 unfold declN
 exact List.mem_map.2 ⟨s,List.mem_filter.2 ⟨h,by simpa using h1⟩,rfl⟩
theorem blkE_kn (t:Tr) (N:List ByteArray) (M:Nat) : ∀(ss:List St) (a:Int) (sc tk:List ByteArray),ss.length<=M->(blkE t ss a sc tk).1=0->(∀x∈sc,x∈N)->(∀s∈ss,s.kind=1->s.name∈N)->∀s∈ss,KnS t N s:=by
 induction M with
 | zero=>
  intro ss a sc tk hl h hs hd s hm
  have:ss = []:=List.eq_nil_of_length_eq_zero o_
  subst this
  simp at hm
 | succ M ih=>
  intro ss a sc tk hl h hs hd s hm
  cases ss with
  | nil=>simp at hm
  | cons z r=>
   simp only [l_c] at hl
   (first | rw [blkE_cons] at h | rw [blkE_nil0] at h)
   by_cases h1:stmtE t sc tk z≠0
   ·rw [if_pos h1] at h;exact absurd h h1
   rw [if_neg h1] at h
   have h1':stmtE t sc tk z=0:=by simpa using h1
   have hs2 : ∀x∈(if z.kind=1 then sc++[z.name] else sc),x∈N:=by
    intro x hx
    split at hx
    ·rename_i hk
     rcases List.mem_append.1 hx with hx | hx
     ·exact hs x hx
     ·simp at hx;subst hx;exact hd z (by simp) hk
    ·exact hs x hx
   generalize (if z.kind=1 then sc++[z.name] else sc)=sc2 at h hs2
   generalize (if z.kind=1 then tk++[z.name] else tk)=tk2 at h
   simp only at h
   rcases List.mem_cons.1 hm with rfl | hm
   ·exact stmtE_kn h1' hs (hd s (by simp))
   by_cases hx:(blkE t (r.take z.thn.toNat) (a+1) sc2 tk2).1≠0
   ·rw [if_pos hx] at h;exact absurd h hx
   rw [if_neg hx] at h
   have hd2 : ∀s∈r,s.kind=1->s.name∈N:=fun s hs=>hd s (by simp [hs])
   have er:r=r.take z.thn.toNat++((r.drop z.thn.toNat).take z.els.toNat++r.drop (z.thn.toNat+z.els.toNat)):=by
    rw [<-List.drop_drop,List.take_append_drop,List.take_append_drop]
   by_cases hy:(blkE t ((r.drop z.thn.toNat).take z.els.toNat) (a+1+z.thn) sc2 (blkE t (r.take z.thn.toNat) (a+1) sc2 tk2).2.2).1≠0
   ·rw [if_pos hy] at h;exact absurd h hy
   rw [if_neg hy] at h
   rw [er] at hm
   rcases List.mem_append.1 hm with hm | hm
   ·exact ih _ _ sc2 tk2 (by simp;omega) (by simpa using hx) hs2 (fun s hs=>hd2 s (List.mem_of_mem_take hs)) s hm
   ·rcases List.mem_append.1 hm with hm | hm
    ·exact ih _ _ sc2 _ (by simp;omega) (by simpa using hy) hs2 (fun s hs=>hd2 s (List.mem_of_mem_drop (List.mem_of_mem_take hs))) s hm
    ·exact ih _ _ sc2 _ (by simp;omega) h hs2 (fun s hs=>hd2 s (List.mem_of_mem_drop hs)) s hm
theorem bodyE_kn {t:Tr} {i:Nat} {f:Fu} (h:(bodyE t i f).1=0) : ∀s∈f.body,KnS t (f.params++declN f.body) s:=by
 unfold bodyE at h
 by_cases hp:dupP t.globals [] f.params=true
 ·rw [if_pos hp] at h;simp at h
 rw [if_neg hp] at h
 by_cases hb:(blkE t f.body 0 f.params f.params).1≠0
 ·rw [if_pos hb] at h;exact absurd h hb
 exact blkE_kn t _ f.body.length f.body 0 f.params f.params (Nat.le_refl _) (by simpa using hb) (fun x hx=>by simp [hx]) (fun s hs hk=>by simp [declN_of_mem hs hk])
theorem bodiesE_all {t:Tr} : ∀(fs:List Fu) (i:Nat),(bodiesE t i fs).1=0->∀f∈fs,∃j,(bodyE t j f).1=0
 | [],_,_,f,hf=>by simp at hf
 | g::r,i,h,f,hf=>by
  unfold bodiesE at h
  by_cases hg:(bodyE t i g).1≠0
  ·rw [if_pos hg] at h;exact absurd h hg
  rw [if_neg hg] at h
  rcases List.mem_cons.1 hf with rfl | hf
  ·exact ⟨i,by simpa using hg⟩
  ·exact bodiesE_all r (i+1) h f hf
theorem sound_kn {t:Tr} (h:(checkE t).1=0) : ∀f∈t.funcs,∀s∈f.body,KnS t (f.params++declN f.body) s:=by
 unfold checkE at h
 by_cases h1:treeB t=false
 ·rw [if_pos h1] at h;simp at h
 rw [if_neg h1] at h
 by_cases h2:(namesE t).1≠0
 ·rw [if_pos h2] at h;exact absurd h h2
 rw [if_neg h2] at h
 by_cases h3:(bodiesE t 0 t.funcs).1≠0
 ·rw [if_pos h3] at h;exact absurd h h3
 intro f hf
 obtain ⟨j,hj⟩:=bodiesE_all t.funcs 0 (by simpa using h3) f hf
 exact bodyE_kn hj
theorem dupG_nodup : ∀(gs:List Gl) (seen:List ByteArray),seen.Nodup->dupG seen gs=false->(seen++gs.map (·.name)).Nodup
 | [],seen,hn,_=>by simpa using hn
 | g::r,seen,hn,h=>by
  unfold dupG at h
  by_cases hc:inS seen g.name=true
  ·rw [if_pos hc] at h;cases h
  ·rw [if_neg hc] at h
   have hni:g.name∉seen:=fun hm=>hc (inS_mem hm)
   have:=dupG_nodup r (seen++[g.name]) (by
    rw [List.nodup_append]
    exact ⟨hn,by simp,fun x hx y hy=>by simp at hy;subst hy;exact fun e=>hni (e ▸ hx)⟩) h
   simpa using this
theorem sound_globs {t:Tr} (h:(checkE t).1=0):(t.globals.map (·.name)).Nodup:=by
 unfold checkE at h
 by_cases h1:treeB t=false
 ·rw [if_pos h1] at h;simp at h
 rw [if_neg h1] at h
 by_cases h2:(namesE t).1≠0
 ·rw [if_pos h2] at h;exact absurd h h2
 have h2':(namesE t).1=0:=by simpa using h2
 unfold namesE at h2'
 by_cases h3:dupG [] t.globals=true
 ·rw [if_pos h3] at h2';simp at h2'
 ·have:=dupG_nodup t.globals [] (by simp) (by simpa using h3)
  simpa using this
theorem globI_mem {gs:List Gl} {s:ByteArray} (h:0<=globI gs s):s∈gs.map (·.name):=by
 induction gs with
 | nil=>simp [globI] at h
 | cons g r ih=>
  unfold globI at h
  by_cases e:g.name=s
  ·simp [e]
  ·rw [if_neg e] at h
   simp only [List.map_cons,List.mem_cons]
   exact .inr (ih h)
def sumBy {α:Type} (f:α->Nat):List α->Nat
 | []=>0
 | x::r=>f x+sumBy f r
theorem sumBy_append {α:Type} (f:α->Nat) (a b:List α):sumBy f (a++b)=sumBy f a+sumBy f b:=by
 induction a with
 | nil=>simp [sumBy]
 | cons x r ih=>simp [sumBy,ih];omega
theorem sumBy_step {α:Type} (f:α->Nat) (l:List α) (k:Nat) (h:k<l.length):sumBy f (l.take (k+1))=sumBy f (l.take k)+f l[k]:=by
 rw [take_succ l k h,sumBy_append];simp [sumBy]
theorem sumBy_le {α:Type} (f:α->Nat) (l:List α) (k:Nat):sumBy f (l.take k)<=sumBy f l:=by
 have:=sumBy_append f (l.take k) (l.drop k)
 rw [List.take_append_drop] at this
 omega
theorem sumBy_mem {α:Type} (f:α->Nat) (l:List α) (x:α) (h:x∈l):f x<=sumBy f l:=by
 induction l with
 | nil=>cases h
 | cons y r ih=>
  simp only [sumBy]
  rcases List.mem_cons.1 h with rfl | h
  ·omega
  ·have:=ih h;omega
def szN (n:Nd):Nat:=n.name.size
def szNs (ns:List Nd):Nat:=ns.length+sumBy szN ns
def szSt (s:St):Nat:=s.name.size+szNs s.e+szNs s.f
def szSs (ss:List St):Nat:=ss.length+sumBy szSt ss
def szPs (ps:List ByteArray):Nat:=ps.length+sumBy ByteArray.size ps
def szFu (f:Fu):Nat:=f.name.size+szPs f.params+szSs f.body
def szFs (fs:List Fu):Nat:=fs.length+sumBy szFu fs
def szG (g:Gl):Nat:=g.name.size
def szGs (gs:List Gl):Nat:=gs.length+sumBy szG gs
def szT (t:Tr):Nat:=szGs t.globals+szFs t.funcs
def szR (left:Int) (n:Nat):Int:=if (n:Int)<=left then left-n else -1
theorem szR_le {left:Int} {n:Nat} (h:(n:Int)<=left):szR left n=left-n:=if_pos h
theorem szR_gt {left:Int} {n:Nat} (h:left<(n:Int)):szR left n = -1:=if_neg o_
def wfNs (ns:List Nd):Prop:=ns.length<=9223372036854775807/\∀n∈ns,n.name.size<=9223372036854775807
def wfSt (s:St):Prop:=s.name.size<=9223372036854775807/\wfNs s.e/\wfNs s.f
def wfSs (ss:List St):Prop:=ss.length<=9223372036854775807/\∀s∈ss,wfSt s
def wfPs (ps:List ByteArray):Prop:=ps.length<=9223372036854775807/\∀s∈ps,s.size<=9223372036854775807
def wfFu (f:Fu):Prop:=f.name.size<=9223372036854775807/\wfPs f.params/\wfSs f.body
def wfFs (fs:List Fu):Prop:=fs.length<=9223372036854775807/\∀f∈fs,wfFu f
def wfGs (gs:List Gl):Prop:=gs.length<=9223372036854775807/\∀g∈gs,g.name.size<=9223372036854775807
def wfT (t:Tr):Prop:=wfGs t.globals/\wfFs t.funcs
theorem smallT_of {t:Tr} (h:szT t<=1048576):smallT t:=by
 unfold szT szGs szFs at h
 refine ⟨by omega,by omega,fun f hf => ?_⟩
 have h1:=sumBy_mem szFu _ _ hf
 have e1:szFu f=f.name.size+(f.params.length+sumBy ByteArray.size f.params)+(f.body.length+sumBy szSt f.body):=rfl
 refine ⟨by omega,by omega,fun s hs => ?_⟩
 have h2:=sumBy_mem szSt _ _ hs
 have e2:szSt s=s.name.size+(s.e.length+sumBy szN s.e)+(s.f.length+sumBy szN s.f):=rfl
 exact ⟨by omega,by omega⟩
def frameSz (f:Fu):Int:=(4*((f.params++declN f.body).length:Int)+4*(places f.body+1)+15) / 16*16
open Classical in
def framesL (t:Tr):List Int:=if (checkE t).1=0 then t.funcs.map frameSz else []
structure FrOk (f:Fu):Prop where
 nd:(f.params++declN f.body).Nodup
 st : ∀s∈f.body,okE s.e/\okE s.f
 sb : ∀s∈f.body,0<s.e.length/\(s.kind=3->0<s.f.length)/\(s.kind≠3->s.f.length=0)
 pl:f.params.length<=1000
 bl:f.body.length<=1000
 sz : ∀s∈f.params++declN f.body,s.size<=maxLen
theorem nodeSum_mem {l:List St} {s:St} (h:s∈l):s.e.length+s.f.length<=nodeSum l:=by
 induction l with
 | nil=>cases h
 | cons a r ih=>
  simp only [nodeSum]
  rcases List.mem_cons.1 h with rfl | h
  ·omega
  ·have:=ih h;omega
theorem frOk {t:Tr} (h:(checkE t).1=0) (hw:wfT t):t.funcs.length<=50/\∀f∈t.funcs,FrOk f:=by
 obtain ⟨hb,hn⟩:=sound_nodup h
 unfold treeB at hb
 simp only [Bool.and_eq_true,decide_eq_true_iff,List.all_eq_true] at hb
 obtain ⟨h1,h2,h3,h4⟩:=hb
 refine ⟨h2,fun f hf => ?_⟩
 have hfb:=h4 f hf
 have hwf:=hw.2.2 f hf
 unfold funcB stmtsB at hfb
 simp only [Bool.and_eq_true,decide_eq_true_iff,List.all_eq_true] at hfb
 obtain ⟨-,hp,hl,-,⟨hsum,hst⟩,-⟩:=hfb
 have hone : ∀s∈f.body,oneB s.e=true/\(s.kind=3->oneB s.f=true)/\(s.kind≠3->s.f.length=0):=by
  intro s hs
  have:=hst s hs
  unfold stmtB at this
  simp only [Bool.and_eq_true] at this
  obtain ⟨⟨⟨⟨⟨-,hoe⟩,hof⟩,-⟩,-⟩,-⟩:=this
  refine ⟨hoe,fun h => ?_,fun h => ?_⟩
  ·rw [if_pos h] at hof;exact hof
  ·rw [if_neg h] at hof;simpa using hof
 refine ⟨hn f hf,fun s hs => ?_,fun s hs => ?_,by omega,by omega,fun s hs => ?_⟩
 ·have hle:=nodeSum_mem hs
  obtain ⟨h5,h6,h7⟩:=hone s hs
  refine ⟨⟨by omega,fun _=>h5⟩,by omega,fun hp => ?_⟩
  by_cases h3:s.kind=3
  ·exact h6 h3
  ·have:=h7 h3;omega
 ·obtain ⟨h5,h6,h7⟩:=hone s hs
  exact ⟨oneB_pos h5,fun h3=>oneB_pos (h6 h3),h7⟩
 ·unfold maxLen
  rcases List.mem_append.1 hs with hs | hs
  ·have:=hwf.2.1.2 s hs;omega
  ·unfold declN at hs
   obtain ⟨x,hx,rfl⟩:=List.mem_map.1 hs
   have:=(hwf.2.2.2 x (List.mem_filter.1 hx).1).1
   omega
theorem framesL_yes {t:Tr} (h:(checkE t).1=0):framesL t=t.funcs.map frameSz:=by unfold framesL;rw [if_pos h]
theorem framesL_no {t:Tr} (h:(checkE t).1≠0):framesL t = []:=by unfold framesL;rw [if_neg h]
theorem framesL_len (t:Tr):(framesL t).length<=t.funcs.length:=by
 unfold framesL
 split <;> simp
theorem frameSz_bd {f:Fu} (h:FrOk f):0<=frameSz f/\frameSz f<=1000000:=by
 have h1:=places_bd f.body h.st
 have h2:=declN_len f.body
 have h3:=h.pl
 have h4:=h.bl
 unfold frameSz
 have:(f.params++declN f.body).length=f.params.length+(declN f.body).length:=by simp
 rw [this]
 omega
theorem plU_spec {s:St} (h:0<s.e.length/\(s.kind=3->0<s.f.length)/\(s.kind≠3->s.f.length=0)) (p:Int):plU s 2 p=if s.kind=3 then max (max p (needL s.e 0)) (needL s.f 1) else max p (needL s.e 0):=by
 obtain ⟨h1,h2,h3⟩:=h
 simp only [plU]
 unfold plE
 by_cases hk:s.kind=3
 ·have:=h2 hk
  simp [hk,show s.e.length≠0 by omega,show s.f.length≠0 by omega]
 ·have:=h3 hk
  have hf:s.f = []:=List.eq_nil_of_length_eq_zero this
  simp [hk,hf]
  intro h;rw [h] at h1;simp at h1
def assignL (E:GEnv) (s:ByteArray) (r:Int):List It:=match E.loc s with
 | some at_=>[insI 11 0 2 r at_]
 | none=>loadL 31 (E.glob s)++[insI 11 0 31 r 0]
abbrev Blk:=Int->List It × Int
def codeS (E:GEnv) (en:Int) (s:St) (a b:Blk):Blk:=fun l=>
 if s.kind=1∨s.kind=2 then ((codeE E s.e 0 l).1++assignL E s.name 5,(codeE E s.e 0 l).2)
 else if s.kind=3 then ((codeE E s.e 0 l).1++(codeE E s.f 1 (codeE E s.e 0 l).2).1++[insI 18 5 5 0 2]++loadL 31 (E.glob s.name)++[insI 21 31 31 5 0,insI 11 0 31 6 0],(codeE E s.f 1 (codeE E s.e 0 l).2).2)
 else if s.kind=4 then
  if 0<s.els then ((codeE E s.e 0 (l+2)).1++[branI 4 5 l]++(a (codeE E s.e 0 (l+2)).2).1++[markI 4 (l+1),markI 2 l]++(b (a (codeE E s.e 0 (l+2)).2).2).1++[markI 2 (l+1)],(b (a (codeE E s.e 0 (l+2)).2).2).2)
  else ((codeE E s.e 0 (l+1)).1++[branI 4 5 l]++(a (codeE E s.e 0 (l+1)).2).1++[markI 2 l],(a (codeE E s.e 0 (l+1)).2).2)
 else if s.kind=5 then ([markI 2 l]++(codeE E s.e 0 (l+2)).1++[branI 4 5 (l+1)]++(a (codeE E s.e 0 (l+2)).2).1++[markI 4 l,markI 2 (l+1)],(a (codeE E s.e 0 (l+2)).2).2)
 else if s.kind=6 then ((codeE E s.e 0 l).1++[insI 12 10 5 0 0,markI 4 en],(codeE E s.e 0 l).2)
 else if s.kind=7 then ((codeE E s.e 0 l).1++[insI 12 10 5 0 0,insI 12 17 0 0 1,insI 34 0 0 0 0],(codeE E s.e 0 l).2)
 else codeE E s.e 0 l
def codeN (E:GEnv) (en:Int):Nat->List St->Blk
 | _,[]=>fun l=>([],l)
 | 0,_::_=>fun l=>([],l)
 | n+1,s::r=>fun l=>
  ((codeS E en s (codeN E en n (r.take s.thn.toNat)) (codeN E en n ((r.drop s.thn.toNat).take s.els.toNat)) l).1++(codeN E en n (r.drop (s.thn.toNat+s.els.toNat)) (codeS E en s (codeN E en n (r.take s.thn.toNat)) (codeN E en n ((r.drop s.thn.toNat).take s.els.toNat)) l).2).1,
   (codeN E en n (r.drop (s.thn.toNat+s.els.toNat)) (codeS E en s (codeN E en n (r.take s.thn.toNat)) (codeN E en n ((r.drop s.thn.toNat).take s.els.toNat)) l).2).2)
def codeB (E:GEnv) (en:Int) (ss:List St):Blk:=codeN E en ss.length ss
theorem codeN_any (E:GEnv) (en:Int) : ∀(n m:Nat) (ss:List St),ss.length<=n->ss.length<=m->codeN E en n ss=codeN E en m ss:=by
 intro n
 induction n with
 | zero=>
  intro m ss hn hm
  have:ss = []:=List.eq_nil_of_length_eq_zero o_
  subst this
  cases m <;> rfl
 | succ n ih=>
  intro m ss hn hm
  cases ss with
  | nil=>cases m <;> rfl
  | cons s r=>
   cases m with
   | zero=>simp at hm
   | succ m=>
    simp only [l_c] at hn hm
    simp only [codeN]
    rw [ih m (r.take s.thn.toNat) (by simp;omega) (by simp;omega),ih m ((r.drop s.thn.toNat).take s.els.toNat) (by simp;omega) (by simp;omega),ih m (r.drop (s.thn.toNat+s.els.toNat)) (by simp;omega) (by simp;omega)]
theorem codeB_nil (E:GEnv) (en l:Int):codeB E en [] l=([],l):=rfl
theorem codeB_cons (E:GEnv) (en:Int) (s:St) (r:List St) (l:Int):codeB E en (s::r) l =
  ((codeS E en s (codeB E en (r.take s.thn.toNat)) (codeB E en ((r.drop s.thn.toNat).take s.els.toNat)) l).1++(codeB E en (r.drop (s.thn.toNat+s.els.toNat)) (codeS E en s (codeB E en (r.take s.thn.toNat)) (codeB E en ((r.drop s.thn.toNat).take s.els.toNat)) l).2).1,
   (codeB E en (r.drop (s.thn.toNat+s.els.toNat)) (codeS E en s (codeB E en (r.take s.thn.toNat)) (codeB E en ((r.drop s.thn.toNat).take s.els.toNat)) l).2).2):=by
 have h:codeB E en (s::r)=codeN E en (r.length+1) (s::r):=rfl
 rw [h]
 simp only [codeN]
 rw [codeN_any E en r.length _ (r.take s.thn.toNat) (by simp;omega) (Nat.le_refl _),codeN_any E en r.length _ ((r.drop s.thn.toNat).take s.els.toNat) (by simp;omega) (Nat.le_refl _),codeN_any E en r.length _ (r.drop (s.thn.toNat+s.els.toNat)) (by simp) (Nat.le_refl _)]
 rfl
def locN (ns:List ByteArray) (s:ByteArray):Option Int:=(ns.findIdx? (fun x=>decide (x=s))).map (fun i:Nat=>4*(i:Int))
def globA (gs:List Gl) (s:ByteArray):Int->Int
 | at_=>match gs with
  | []=>at_
  | g::r=>if g.name=s then at_ else globA r s (at_+4*max 1 g.size)
theorem globA_bd (gs:List Gl) (s:ByteArray) (hz : ∀g∈gs,0<=g.size/\g.size<=4000) : ∀at_:Int,at_<=globA gs s at_/\globA gs s at_<=at_+16000*gs.length:=by
 induction gs with
 | nil=>intro a;simp [globA]
 | cons g r ih=>
  intro a
  have h1:=hz g (by simp)
  have h2:=ih (fun x hx=>hz x (by simp [hx])) (a+4*max 1 g.size)
  simp only [globA,l_c]
  split <;> omega
def fnumG (fs:List Fu) (s:ByteArray):Int:=match fnum fs s with | some i=>(i:Int) | none => -1
def envF (t:Tr) (f:Fu):GEnv:=⟨(f.params++declN f.body).length,locN (f.params++declN f.body),fun s=>globA t.globals s 1048576,fnumG t.funcs⟩
def parL:Nat->List It
 | 0=>[]
 | j+1=>parL j++[insI 11 0 2 (10+j) (4*j)]
def codeF (t:Tr) (i:Nat) (f:Fu):Blk:=fun l=>
 ([markI 2 i,insI 12 2 2 0 (-frameSz f),insI 11 0 2 1 (frameSz f-4)]++parL f.params.length++(codeB (envF t f) l f.body (l+1)).1++[insI 12 10 0 0 0,markI 2 l,insI 10 1 2 0 (frameSz f-4),insI 12 2 2 0 (frameSz f),insI 3 0 1 0 0],(codeB (envF t f) l f.body (l+1)).2)
def codeT (t:Tr):Nat->Blk
 | 0=>fun l=>([markI 5 (fnumG t.funcs mainS),insI 12 17 0 0 10,insI 34 0 0 0 0],l)
 | i+1=>fun l=>((codeT t i l).1++(codeF t i (t.funcs.getD i ⟨⟨#[]⟩,[],[]⟩) (codeT t i l).2).1,(codeF t i (t.funcs.getD i ⟨⟨#[]⟩,[],[]⟩) (codeT t i l).2).2)
def joinS (F:Nat->List St):Nat->List St
 | 0=>[]
 | A+1=>joinS F A++F A
structure BvC (w:World)(S:Nat->Prop)(P:Value→List St→Prop):Prop where
 c_::
 decl(s:St)(x:Value):(s.kind=1)→Tv w S x s.e→(s.thn=0)→(s.els=0)→P (.iface 180 (.agg #[.string s.name,x])) [s]
 set(s:St)(x:Value):(s.kind=2)→Tv w S x s.e→(s.thn=0)→(s.els=0)→P (.iface 181 (.agg #[.string s.name,x])) [s]
 store(s:St)(x y:Value):(s.kind=3)→Tv w S x s.e→Tv w S y s.f→(s.thn=0)→(s.els=0)→P (.iface 183 (.agg #[.string s.name,x,y])) [s]
 ifs(s:St)(x va vb:Value)(A B:Nat)(vs us:Nat->Value)(F H:Nat->List St):(s.kind=4)→Tv w S x s.e→Args w S va A vs→(∀i,i<A->P (vs i) (F i))→Args w S vb B us→(∀i,i<B->P (us i) (H i))→(s.thn=(joinS F A).length)→(s.els=(joinS H B).length)→P (.iface 174 (.agg #[x,va,vb])) (s::joinS F A++joinS H B)
 whil(s:St)(x va:Value)(A:Nat)(vs:Nat->Value)(F:Nat->List St):(s.kind=5)→Tv w S x s.e→Args w S va A vs→(∀i,i<A->P (vs i) (F i))→(s.thn=(joinS F A).length)→(s.els=0)→P (.iface 177 (.agg #[x,va])) (s::joinS F A)
 ret(s:St)(x:Value):(s.kind=6)→Tv w S x s.e→(s.thn=0)→(s.els=0)→P (.iface 185 (.agg #[x])) [s]
 out(s:St)(x:Value):(s.kind=7)→Tv w S x s.e→(s.thn=0)→(s.els=0)→P (.iface 186 (.agg #[x])) [s]
 call(s:St)(x:Value):(s.kind=8)→Tv w S x s.e→(s.thn=0)→(s.els=0)→P (.iface 187 (.agg #[x])) [s]
structure Bv (w:World)(S:Nat->Prop)(a0:Value)(a1:List St):Prop where
 c_::
 f_:∀P,BvC w S P→P a0 a1
theorem Bv.C{w:World}{S:Nat->Prop}:BvC w S (Bv w S):=⟨fun s x q0 q1 q2 q3=>⟨fun P h=>h.decl s x q0 q1 q2 q3⟩,
 fun s x q0 q1 q2 q3=>⟨fun P h=>h.set s x q0 q1 q2 q3⟩,
 fun s x y q0 q1 q2 q3 q4=>⟨fun P h=>h.store s x y q0 q1 q2 q3 q4⟩,
 fun s x va vb A B vs us F H q0 q1 q2 q3 q4 q5 q6 q7=>⟨fun P h=>h.ifs s x va vb A B vs us F H q0 q1 q2 (fun i r0=>(q3 i r0).f_ P h) q4 (fun i r0=>(q5 i r0).f_ P h) q6 q7⟩,
 fun s x va A vs F q0 q1 q2 q3 q4 q5=>⟨fun P h=>h.whil s x va A vs F q0 q1 q2 (fun i r0=>(q3 i r0).f_ P h) q4 q5⟩,
 fun s x q0 q1 q2 q3=>⟨fun P h=>h.ret s x q0 q1 q2 q3⟩,
 fun s x q0 q1 q2 q3=>⟨fun P h=>h.out s x q0 q1 q2 q3⟩,
 fun s x q0 q1 q2 q3=>⟨fun P h=>h.call s x q0 q1 q2 q3⟩⟩
abbrev Bv.decl {w S}:=(Bv.C:BvC w S _).decl
abbrev Bv.set {w S}:=(Bv.C:BvC w S _).set
abbrev Bv.store {w S}:=(Bv.C:BvC w S _).store
abbrev Bv.ifs {w S}:=(Bv.C:BvC w S _).ifs
abbrev Bv.whil {w S}:=(Bv.C:BvC w S _).whil
abbrev Bv.ret {w S}:=(Bv.C:BvC w S _).ret
abbrev Bv.out {w S}:=(Bv.C:BvC w S _).out
abbrev Bv.call {w S}:=(Bv.C:BvC w S _).call
theorem Bv_i{w:World}{S:Nat->Prop}{M:∀(a0:Value)(a1:List St),Bv w S a0 a1→Prop}
 (decl:∀(s:St)(x:Value),(s.kind=1)→Tv w S x s.e→(s.thn=0)→(s.els=0)→∀t,M (.iface 180 (.agg #[.string s.name,x])) [s] t)
 (set:∀(s:St)(x:Value),(s.kind=2)→Tv w S x s.e→(s.thn=0)→(s.els=0)→∀t,M (.iface 181 (.agg #[.string s.name,x])) [s] t)
 (store:∀(s:St)(x y:Value),(s.kind=3)→Tv w S x s.e→Tv w S y s.f→(s.thn=0)→(s.els=0)→∀t,M (.iface 183 (.agg #[.string s.name,x,y])) [s] t)
 (ifs:∀(s:St)(x va vb:Value)(A B:Nat)(vs us:Nat->Value)(F H:Nat->List St),(s.kind=4)→Tv w S x s.e→Args w S va A vs→∀q3:∀i,i<A->Bv w S (vs i) (F i),Args w S vb B us→∀q5:∀i,i<B->Bv w S (us i) (H i),(s.thn=(joinS F A).length)→(s.els=(joinS H B).length)→(∀ i (r0 : i<A),M (vs i) (F i) (q3 i r0))→(∀ i (r0 : i<B),M (us i) (H i) (q5 i r0))→∀t,M (.iface 174 (.agg #[x,va,vb])) (s::joinS F A++joinS H B) t)
 (whil:∀(s:St)(x va:Value)(A:Nat)(vs:Nat->Value)(F:Nat->List St),(s.kind=5)→Tv w S x s.e→Args w S va A vs→∀q3:∀i,i<A->Bv w S (vs i) (F i),(s.thn=(joinS F A).length)→(s.els=0)→(∀ i (r0 : i<A),M (vs i) (F i) (q3 i r0))→∀t,M (.iface 177 (.agg #[x,va])) (s::joinS F A) t)
 (ret:∀(s:St)(x:Value),(s.kind=6)→Tv w S x s.e→(s.thn=0)→(s.els=0)→∀t,M (.iface 185 (.agg #[x])) [s] t)
 (out:∀(s:St)(x:Value),(s.kind=7)→Tv w S x s.e→(s.thn=0)→(s.els=0)→∀t,M (.iface 186 (.agg #[x])) [s] t)
 (call:∀(s:St)(x:Value),(s.kind=8)→Tv w S x s.e→(s.thn=0)→(s.els=0)→∀t,M (.iface 187 (.agg #[x])) [s] t)
 {a0:Value}{a1:List St}(t:Bv w S a0 a1):M a0 a1 t:=
 (t.f_ (fun a0 a1=>∃z_,M a0 a1 z_) ⟨fun s x q0 q1 q2 q3=>⟨.decl s x q0 q1 q2 q3,decl s x q0 q1 q2 q3 _⟩,
 fun s x q0 q1 q2 q3=>⟨.set s x q0 q1 q2 q3,set s x q0 q1 q2 q3 _⟩,
 fun s x y q0 q1 q2 q3 q4=>⟨.store s x y q0 q1 q2 q3 q4,store s x y q0 q1 q2 q3 q4 _⟩,
 fun s x va vb A B vs us F H q0 q1 q2 q3 q4 q5 q6 q7=>⟨.ifs s x va vb A B vs us F H q0 q1 q2 (fun i r0=>(q3 i r0).1) q4 (fun i r0=>(q5 i r0).1) q6 q7,ifs s x va vb A B vs us F H q0 q1 q2 _ q4 _ q6 q7 (fun i r0=>(q3 i r0).2) (fun i r0=>(q5 i r0).2) _⟩,
 fun s x va A vs F q0 q1 q2 q3 q4 q5=>⟨.whil s x va A vs F q0 q1 q2 (fun i r0=>(q3 i r0).1) q4 q5,whil s x va A vs F q0 q1 q2 _ q4 q5 (fun i r0=>(q3 i r0).2) _⟩,
 fun s x q0 q1 q2 q3=>⟨.ret s x q0 q1 q2 q3,ret s x q0 q1 q2 q3 _⟩,
 fun s x q0 q1 q2 q3=>⟨.out s x q0 q1 q2 q3,out s x q0 q1 q2 q3 _⟩,
 fun s x q0 q1 q2 q3=>⟨.call s x q0 q1 q2 q3,call s x q0 q1 q2 q3 _⟩⟩).2
theorem Bv.keep {w w':World} {S S':Nat->Prop} {v:Value} {r:List St} (h:Bv w S v r) (hS : ∀B,S B->S' B) (hk : ∀B,S B->w'.heap[B]? = w.heap[B]?):Bv w' S' v r:=by
 induction h using Bv_i with
 | decl s x h1 h2 h3 h4=>exact .decl s x h1 (h2.keep hS hk) h3 h4
 | set s x h1 h2 h3 h4=>exact .set s x h1 (h2.keep hS hk) h3 h4
 | store s x y h1 h2 h3 h4 h5=>exact .store s x y h1 (h2.keep hS hk) (h3.keep hS hk) h4 h5
 | ifs s x va vb A B vs us F H h1 h2 h3 h4 h5 h6 h7 h8 ih1 ih2=>exact .ifs s x va vb A B vs us F H h1 (h2.keep hS hk) (h3.keep hS hk) ih1 (h5.keep hS hk) ih2 h7 h8
 | whil s x va A vs F h1 h2 h3 h4 h5 h6 ih=>exact .whil s x va A vs F h1 (h2.keep hS hk) (h3.keep hS hk) ih h5 h6
 | ret s x h1 h2 h3 h4=>exact .ret s x h1 (h2.keep hS hk) h3 h4
 | out s x h1 h2 h3 h4=>exact .out s x h1 (h2.keep hS hk) h3 h4
 | call s x h1 h2 h3 h4=>exact .call s x h1 (h2.keep hS hk) h3 h4
theorem Bv.bel {w w':World} {S:Nat->Prop} {v:Value} {r:List St} (h:Bv w S v r) (hS : ∀B,S B->B<w.heap.size) (hb:Below w.heap.size w w'):Bv w' S v r:=h.keep (fun _ h=>h) (fun B hB=>hb.block B (hS B hB))
theorem Bv.isI {w:World} {S:Nat->Prop} {v:Value} {r:List St} (h:Bv w S v r) : ∃t x,v = .iface t x:=by
 cases h using Bv_i <;> exact ⟨_,_,rfl⟩
def Bk (w:World) (S:Nat->Prop) (v:Value) (ss:List St):Prop:=∃(A:Nat) (vs:Nat->Value) (F:Nat->List St),Args w S v A vs/\(∀i,i<A->Bv w S (vs i) (F i))/\ss=joinS F A
theorem Bk.keep {w w':World} {S S':Nat->Prop} {v:Value} {ss:List St} (h:Bk w S v ss) (hS : ∀B,S B->S' B) (hk : ∀B,S B->w'.heap[B]? = w.heap[B]?):Bk w' S' v ss:=by
 obtain ⟨A,vs,F,h1,h2,h3⟩:=h
 exact ⟨A,vs,F,h1.keep hS hk,fun i hi=>(h2 i hi).keep hS hk,h3⟩
theorem Bk.bel {w w':World} {S:Nat->Prop} {v:Value} {ss:List St} (h:Bk w S v ss) (hS : ∀B,S B->B<w.heap.size) (hb:Below w.heap.size w w'):Bk w' S v ss:=h.keep (fun _ h=>h) (fun B hB=>hb.block B (hS B hB))
theorem gfunc_any (f:Fu) (vp vb:Value) (w:World) (hf:smallF f) (hp:Strs w vp f.params) (hb:Stmts w vb f.body) :
  Calls Tryz.prog 112 #[.agg #[.string f.name,vp,vb]] w fun e w'=>e = .returned (.bool (funcB f))/\Below w.heap.size w w':=by
 obtain ⟨name,ps,ss⟩:=f
 simp only at hp hb ⊢
 have HP:=hide hp
 have HS:=hide hb
 have HF:=hide hf
 have hpl:ps.length<=1048576:=HF.out.1
 have hsl:ss.length<=1048576:=HF.out.2.1
 obtain ⟨ap,cp,rfl,-,-,hpc⟩:=hp
 obtain ⟨ab,cb,rfl,-,-,hbc⟩:=hb
 have HPC:=hide hpc
 have HBC:=hide hbc
 clear hpc hbc hf
 go_enter Tryz.func112,Tryz.ntmps112
 go_wp2_with fail
 refine (name_any _ _).mono ?_
 rintro e w1 ⟨rfl,rfl⟩
 have hb1:Below (w.heap.size+1) (w.alloc (.cells #[.string name,.slice ap ps.length cp,.slice ab ss.length cb] 64)) (w.alloc (.cells #[.string name,.slice ap ps.length cp,.slice ab ss.length cb] 64)):=Below.refl _ _
 have hB1:=one_below hb1
 obtain ⟨x0,x1,x2⟩:=box3 hb1
 cases hn:nameB name
 ·go_wp2_with fail
  go_ret
  exact ⟨ret_bool (by simp only [funcB,hn,Bool.false_and]),hB1⟩
 by_cases h6:6<ps.length
 ·go_wp2_with fail
  go_ret
  exact ⟨ret_bool (by simp only [funcB,hn,decide_eq_false (show ¬ps.length<=6 by omega),Bool.false_and,Bool.and_false]),hB1⟩
 by_cases h5:500<ss.length
 ·go_wp2_with fail
  go_ret
  exact ⟨ret_bool (by simp only [funcB,hn,decide_eq_false (show ¬ss.length<=500 by omega),Bool.false_and,Bool.and_false]),hB1⟩
 have HFB:Hid (funcB ⟨name,ps,ss⟩=(ps.all nameB && (stmtsB gstmtB ss && fitB ss))):=by
  show _=_
  rw [gstmts_fit]
  simp only [funcB,hn,decide_eq_true (show ps.length<=6 by omega),decide_eq_true (show ss.length<=500 by omega),Bool.true_and]
 go_wp2_with fail
 clear x0 x1 x2
 go_loopw [3] (fun i wr=>∃k:Nat,k<=ps.length/\i = .int .i64 k/\(∀s∈ps.take k,nameB s=true)/\Below (w.heap.size+1) (w.alloc (.cells #[.string name,.slice ap ps.length cp,.slice ab ss.length cb] 64)) wr) (fun i _=>ps.length-(RowKit.intOf i).toNat)
 case atStart=>exact ⟨0,Nat.zero_le _,rfl,by simp,hb1⟩
 case round=>
  obtain ⟨k,hk,rfl,hg,hB⟩:=hrel
  have HG:=hide hg
  clear hg hb1 hB1
  have hBw:=one_below hB
  by_cases hlt:k<ps.length
  ·obtain ⟨b,off,rfl,hc⟩:=HPC.out o_
   have d0:=(hc.below hBw) k hlt
   have HE:Hid (ps.take (k+1)=ps.take k++[ps[k]]):=take_succ ps k hlt
   have HX:Hid (nameB ps[k]=false->ps.all nameB=false):=all_bad hlt
   clear hc
   generalize ps[k]=s at d0 HE HX
   obtain ⟨x0,x1,x2⟩:=box3 hB
   have hB2:=hB
   cases hv:nameB s
   ·go_wp2_with (go_at_call 110;refine (name_any _ _).mono ?_;rintro e w' ⟨rfl,rfl⟩;rw [hv])
    go_ret
    exact ⟨ret_bool (by rw [HFB.out,HX.out hv];rfl),one_below hB2⟩
   ·go_wp2_with (go_at_call 110;refine (name_any _ _).mono ?_;rintro e w' ⟨rfl,rfl⟩;rw [hv])
    go_roundw
    case rel=>
     refine ⟨k+1,by omega,by go_num,fun m hm => ?_,hB2⟩
     rw [HE.out] at hm
     rcases List.mem_append.1 hm with hm | hm
     ·exact HG.out m hm
     ·rw [List.mem_singleton.1 hm];exact hv
    case measure=>simp [RowKit.intOf];omega
  ·have HA:Hid (ps.all nameB=true):=by
    show _=_
    rw [List.all_eq_true]
    have:=HG.out
    rw [List.take_of_length_le o_] at this
    exact this
   clear HG HPC
   obtain ⟨x0,x1,x2⟩:=box3 hB
   go_wp2_with fail
   clear x0 x1 x2
   go_loopw [4,5] (fun q i wr=>∃k:Nat,k<=ss.length/\i = .int .i64 k/\q = .int .i64 (nodeSum (ss.take k):Nat)/\nodeSum (ss.take k)<=2000/\(∀s∈ss.take k,gstmtB s=true)/\Below (w.heap.size+1) (w.alloc (.cells #[.string name,.slice ap ps.length cp,.slice ab ss.length cb] 64)) wr) (fun _ i _=>ss.length-(RowKit.intOf i).toNat)
   case atStart=>exact ⟨0,Nat.zero_le _,rfl,rfl,by simp [nodeSum],by simp,hB⟩
   case round=>
    clear hB hBw hlt
    obtain ⟨k,hk,rfl,rfl,hq,hg,hB⟩:=hrel
    have HG:=hide hg
    clear hg
    have hBw:=one_below hB
    by_cases hlt:k<ss.length
    ·obtain ⟨b,off,rfl,hc⟩:=HBC.out o_
     obtain ⟨ve,vf,⟨c0,c1,c2,c3,c4,c5⟩,he,hf⟩:=(hc.below hBw) k hlt
     have HE:Hid (ss.take (k+1)=ss.take k++[ss[k]]):=take_succ ss k hlt
     have HX:Hid (gstmtB ss[k]=false->stmtsB gstmtB ss=false):=stmtsB_bad hlt
     have HQ:Hid _:=nodeSum_step ss k hlt
     have HY:Hid (2000<nodeSum (ss.take (k+1))->stmtsB gstmtB ss=false):=stmtsB_sum
     have hsm:=HF.out.2.2 ss[k] (List.getElem_mem hlt)
     clear hc
     generalize ss[k]=s at c0 c1 c2 c3 c4 c5 he hf HE HX HQ hsm
     generalize nodeSum (ss.take k)=q at hq HQ
     have HNE:=hide he
     have HNF:=hide hf
     obtain ⟨a2,k2,rfl,-,-,-⟩:=he
     obtain ⟨a3,k3,rfl,-,-,-⟩:=hf
     have hs1:=hsm.1
     have hs2:=hsm.2
     clear hsm
     obtain ⟨x0,x1,x2⟩:=box3 hB
     go_wp2_with fail
     go_quiet (fail)
     have hBq:Below (w.heap.size+1) (w.alloc (.cells #[.string name,.slice ap ps.length cp,.slice (some ⟨b,off,none⟩) ss.length cb] 64)) (wr.drewN nq):=below_drewN hB nq
     have hBwq:=one_below hBq
     have hBy:Bl wr (wr.drewN nq):=below_drewN (Below.refl _ _) nq
     by_cases hs:2000<q+s.e.length+s.f.length
     ·go_wp2_with fail
      go_ret
      exact ⟨ret_bool (by rw [HFB.out,HY.out (by rw [HQ.out];omega)];simp),hBwq⟩
     ·go_wp2_with fail
      refine (gstmt_any s _ _ _ o_ o_ (HNE.out.below hBy) (HNF.out.below hBy)).mono ?_
      rintro e w2 ⟨rfl,hb2⟩
      have hB2:=hBq.trans (hb2.mono (by have:=hBq.size;simp at this;simp;omega))
      clear c0 c1 c2 c3 c4 c5 hb2
      cases hv:gstmtB s
      ·go_wp2_with fail
       go_ret
       exact ⟨ret_bool (by rw [HFB.out,HX.out hv];simp),one_below hB2⟩
      ·go_wp2_with fail
       go_roundw
       case rel=>
        refine ⟨k+1,by omega,by go_num,?_,by rw [HQ.out];omega,fun m hm => ?_,hB2⟩
        ·rw [HQ.out];congr 1
        ·rw [HE.out] at hm
         rcases List.mem_append.1 hm with hm | hm
         ·exact HG.out m hm
         ·rw [List.mem_singleton.1 hm];exact hv
       case measure=>simp [RowKit.intOf];omega
    ·have HA2:Hid (stmtsB gstmtB ss=true):=by
      show _=_
      have h1:=HG.out
      rw [List.take_of_length_le o_] at h1 hq
      exact stmtsB_ok hq h1
     have HNN:Hid (nonneg ss):=by
      have h1:=HG.out
      rw [List.take_of_length_le o_] at h1
      exact gstmts_nonneg h1
     obtain ⟨x0,x1,x2⟩:=box3 hB
     go_wp2_with fail
     refine (shaped_any ss.length _ ss _ (Nat.le_refl _) hsl HNN.out (HS.out.below hBw)).mono ?_
     rintro e w2 ⟨rfl,hb2⟩
     clear x0 x1 x2
     go_wp2_with fail
     go_ret
     exact ⟨ret_bool (by rw [HFB.out,HA.out,HA2.out];rfl),hBw.trans (hb2.mono hBw.size)⟩
end Go.Proofs.YtnpidjamplmgjaaGreatDoor
