import Derived.Test.YtnpidjamplmgjaaGreatDoorQ26
import Derived.Deep.RegionHeld3
set_option linter.unusedSectionVars false
variable [Inhabited Go.Proofs.YtnpidjamplmgjaaGreatDoor.Pick]
namespace Go.Proofs.YtnpidjamplmgjaaGreatDoor
open Go.RowKit
set_option linter.unusedVariables false
set_option linter.unusedSimpArgs false
set_option maxRecDepth 100000
set_option maxHeartbeats 16000000
theorem split_at_ {α:Type} (l:List α) (j:Nat) (h:j<l.length):l=l.take j++l[j]::l.drop (j+1):=by
 rw [List.getElem_cons_drop,List.take_append_drop]
theorem split_at2 {α:Type} (l r:List α) (j:Nat) (h:j<l.length):l++r=l.take j++l[j]::(l.drop (j+1)++r):=by
 calc l++r=(l.take j++l[j]::l.drop (j+1))++r:=by rw [<-split_at_ l j h]
  _=_:=by rw [List.append_assoc,List.cons_append]
theorem exprE_more {t:Tr} {sc:List ByteArray} {a:List Nd} {n:Nd} (h:exprE t sc a=0) (hn:nodeE t sc n=0):exprE t sc (a++[n])=0:=by
 rw [exprE_append,if_pos h]
 simp [exprE,hn]
theorem exprE_stop {t:Tr} {sc:List ByteArray} {a:List Nd} {n:Nd} {r:List Nd} (h:exprE t sc a=0) (hn:nodeE t sc n≠0):exprE t sc (a++n::r)=nodeE t sc n:=by
 rw [exprE_append,if_pos h]
 simp [exprE,hn]
theorem stmtE_expr {t:Tr} {sc tk:List ByteArray} {s:St} (h:exprE t sc (s.e++s.f)≠0):stmtE t sc tk s=exprE t sc (s.e++s.f):=by
 unfold stmtE;rw [if_pos h]
theorem stmtE_decl {t:Tr} {sc tk:List ByteArray} {s:St} (h:exprE t sc (s.e++s.f)=0) (hk:s.kind=1):stmtE t sc tk s=if inS tk s.name=true∨0<=globI t.globals s.name then 2 else 0:=by
 unfold stmtE;rw [if_neg (by simp [h]),if_pos hk]
theorem stmtE_use {t:Tr} {sc tk:List ByteArray} {s:St} (h:exprE t sc (s.e++s.f)=0) (hk:s.kind=2∨s.kind=3):stmtE t sc tk s=useE t.globals sc s.name (decide (s.kind=3)):=by
 unfold stmtE;rw [if_neg (by simp [h]),if_neg o_,if_pos hk]
theorem stmtE_none {t:Tr} {sc tk:List ByteArray} {s:St} (h:exprE t sc (s.e++s.f)=0) (h1:s.kind≠1) (h2:s.kind≠2) (h3:s.kind≠3):stmtE t sc tk s=0:=by
 unfold stmtE;rw [if_neg (by simp [h]),if_neg h1,if_neg o_]
theorem stmtK {E:Ev} {w:World} {bsn:List (List ByteArray)} {xs:List ByteArray} {bi:List Nat} {b:Nat} {v:Value} {bt:Nat} {tk:List ByteArray} {fn st:Int} (h:Cs E w (bsn++[xs]) (bi++[b]) v bt tk fn st) (hgf:E.gf=globF E.t.globals) (hgp:E.gp=fun s=>decide (0<=globI E.t.globals s)) (hp : ∀g∈E.t.globals,0<=g.size) (hfl:E.t.funcs.length<=1048576)
  (s:St) (ve vf:Value) (he:Nodes w ve s.e) (hf:Nodes w vf s.f) (hsm:smallS s) (hwf:wfSt s) (htk:tk.length<=1000000) (hxs:xs.length<=1000000) :
  Calls Tryz.prog 203 #[.pointer (some ⟨E.C,0,none⟩),.agg #[.int .i64 s.kind,.string s.name,ve,vf,.int .i64 s.thn,.int .i64 s.els]] w fun e w'=>e = .returned (errV (stmtE E.t (bsn++[xs]).flatten tk s) fn st) /\
   (∃xs' tk',Cs E w' (bsn++[xs']) (bi++[b]) v bt tk' fn st/\(stmtE E.t (bsn++[xs]).flatten tk s=0->xs'=scp s xs/\tk'=scp s tk))/\Tcs (fun k=>k=bt∨k=b) w w':=by
 obtain ⟨sc,hsc⟩ : ∃sc,sc=(bsn++[xs]).flatten:=⟨_,rfl⟩
 rw [<-hsc]
 have HSC:=hide hsc
 clear hsc
 have HCs:=hide h
 have HNe:=hide he
 have HNf:=hide hf
 have HS:=hide hsm
 have HWs:=hide hwf
 have HGF:=hide hgf
 have HGP:Hid (∀s,(E.gp s=true)=(0<=globI E.t.globals s)):=fun s=>by rw [hgp];simp
 have HP:=hide hp
 obtain ⟨ae,ce,rfl,-⟩:=he
 obtain ⟨af,cf,rfl,-⟩:=hf
 have hZ0:s.name.size<=maxLen:=by have:=hwf.1;unfold maxLen;omega
 clear h hsm hwf hp hgf hgp
 go_enter Tryz.func203,Tryz.ntmps203
 go_wp2_with fail
 refine (exprs_any _ _ _ _ _ _ _ _ _ _ _).mono ?_
 rintro e w1 ⟨rfl,hb1⟩
 simp only [World.size_alloc] at hb1
 have HB1:=hide hb1
 clear hb1
 go_wp2_with fail
 go_loopw [13] (fun i w2=>∃(m:Nat),m<=2/\i = .int .i64 m/\exprE E.t sc (upTo s m)=0/\Below (w.heap.size+1) (w.alloc (.cells #[.int .i64 s.kind,.string s.name,.slice ae s.e.length ce,.slice af s.f.length cf,.int .i64 s.thn,.int .i64 s.els] 123)) w2) (fun i _=>2-(RowKit.intOf i).toNat)
 case atStart=>exact ⟨0,Nat.zero_le _,rfl,rfl,HB1.out⟩
 case round=>
  obtain ⟨m,hm,rfl,hz,hB⟩:=hrel
  have HZ:=hide hz
  clear HB1 hz
  by_cases hm2:m<2
  ·obtain ⟨va,el,ca,hidx,hel,hnext,⟨rest,hrest⟩,hll,hwfs⟩ : ∃(va:Option Addr) (el:List Nd) (ca:Nat),(∀W,(Instr.index 162 (.agg #[.slice ae s.e.length ce,.slice af s.f.length cf]) (.int .i64 (m:Int))).run Tryz.prog W = .ok (.slice va el.length ca) W)/\Nodes w (.slice va el.length ca) el/\upTo s (m+1)=upTo s m++el/\(∃rest,s.e++s.f=upTo s m++el++rest)/\el.length<=1048576/\(∀n∈el,n.name.size<=9223372036854775807):=by
    have h01:m=0∨m=1:=by omega
    rcases h01 with rfl | rfl
    ·exact ⟨ae,s.e,ce,fun W=>idx0 _ _ W,HNe.out,by simp [upTo],⟨s.f,by simp [upTo]⟩,HS.out.1,HWs.out.2.1.2⟩
    ·exact ⟨af,s.f,cf,fun W=>idx1 _ _ W,HNf.out,by simp [upTo],⟨[],by simp [upTo]⟩,HS.out.2,HWs.out.2.2.2⟩
   have HX:=hide hnext
   have HRe:=hide hrest
   have HWn:=hide hwfs
   generalize upTo s m=mid at HZ HX HRe
   obtain ⟨_,_,he0,-,-,hec⟩:=hel
   simp only [Value.slice.injEq] at he0
   obtain ⟨rfl,-,rfl⟩:=he0
   have HEC:=hide hec
   clear hec hnext hwfs hrest
   have hm2d:decide ((m:Int)<2)=true:=by rw [decide_eq_true_iff];omega
   go_wp2_with fail
   go_loopw [18] (fun i w4=>∃(j:Nat),j<=el.length/\i = .int .i64 j/\exprE E.t sc (mid++el.take j)=0/\Below (w.heap.size+1) (w.alloc (.cells #[.int .i64 s.kind,.string s.name,.slice ae s.e.length ce,.slice af s.f.length cf,.int .i64 s.thn,.int .i64 s.els] 123)) w4) (fun i _=>el.length-(RowKit.intOf i).toNat)
   case atStart=>exact ⟨0,Nat.zero_le _,rfl,by simpa using HZ.out,hB⟩
   case round=>
    clear hidx hB
    obtain ⟨j,hj,rfl,hz4,hB⟩:=hrel
    have HZ4:=hide hz4
    clear hz4
    have hBw:=one_below hB
    by_cases hjl:j<el.length
    ·obtain ⟨bn,on,rfl,hcn⟩:=HEC.out o_
     obtain ⟨c0,c1,c2⟩:=(hcn.below hBw) j hjl
     have HNm:Hid (el[j].name.size<=maxLen):=by
      have:=HWn.out el[j] (List.getElem_mem hjl)
      show _<=_
      unfold maxLen;omega
     have HT:Hid (mid++el.take (j+1)=mid++el.take j++[el[j]]):=by show _=_;rw [take_succ el j hjl];simp
     have HL:Hid (s.e++s.f=mid++el.take j++el[j]::(el.drop (j+1)++rest)):=by
      show _=_
      rw [HRe.out,List.append_assoc,split_at2 el rest j hjl,List.append_assoc]
     clear hcn
     generalize el[j]=n at c0 c1 c2 HNm HT HL
     have hBa:Bl w (wr.alloc (.cells #[.int .i64 n.kind,.int .i64 n.val,.string n.name] 151)):=hBw.alloc hBw.size _
     have hsz:=hB.size
     simp only [World.size_alloc] at hsz
     go_wp2_with fail
     refine (nodeK_any ((HCs.out.below hBa).ck HGF.out) HP.out hfl n HNm.out).mono ?_
     rintro e w5 ⟨rfl,hb5⟩
     simp only [World.size_alloc] at hb5
     rw [<-HSC.out]
     have hB5:Below (w.heap.size+1) (w.alloc (.cells #[.int .i64 s.kind,.string s.name,.slice ae s.e.length ce,.slice af s.f.length cf,.int .i64 s.thn,.int .i64 s.els] 123)) w5:=hB.trans ((one_below hb5).mono hsz)
     clear hb5 c0 c1 c2 hBa hB hBw
     by_cases hn:nodeE E.t sc n=0
     ·have HN:Hid (nodeE E.t sc n=0):=hn
      rw [hn,errV_zero]
      clear hn
      go_wp2_with fail
      go_roundw
      case rel=>exact ⟨j+1,by omega,by go_num,by rw [HT.out];exact exprE_more HZ4.out HN.out,hB5⟩
      case measure=>simp [RowKit.intOf];omega
     ·have HN:Hid (stmtE E.t sc tk s=nodeE E.t sc n):=by
       have e1:exprE E.t sc (s.e++s.f)=nodeE E.t sc n:=by rw [HL.out];exact exprE_stop HZ4.out hn
       show _=_
       rw [stmtE_expr (by rw [e1];exact hn),e1]
      have HN0:=hide hn
      rw [errV_ne hn]
      generalize nodeE E.t sc n=z at HN HN0 ⊢
      clear hn
      go_wp2_with fail
      go_ret
      exact ⟨ret_val (by rw [HN.out,errV_ne HN0.out];rfl),⟨xs,tk,HCs.out.below (one_below hB5),fun h=>absurd (HN.out.symm.trans h) HN0.out⟩,(one_below hB5).tcs⟩
    ·have HD:Hid (upTo s (m+1)=mid++el.take j):=by show _=_;rw [HX.out,List.take_of_length_le o_]
     go_wp2_with fail
     go_roundw
     case rel=>exact ⟨m+1,by omega,by go_num,by rw [HD.out];exact HZ4.out,hB⟩
     case measure=>simp [RowKit.intOf];omega
  ·have HQ:Hid (exprE E.t sc (s.e++s.f)=0):=by
    have:=HZ.out
    have hm':m=2:=by omega
    subst hm'
    exact this
   clear HZ
   have hBw:=one_below hB
   obtain ⟨x0,x1,-⟩:=box6 hB
   have hm2d:decide ((m:Int)<2)=false:=by rw [decide_eq_false_iff_not];omega
   by_cases hk1:s.kind=1
   ·have hk1':=hk1
    rw [hk1] at x0
    by_cases hx:inS tk s.name=true∨0<=globI E.t.globals s.name
    ·have HE:Hid (stmtE E.t sc tk s=2):=by show _=_;rw [stmtE_decl HQ.out hk1,if_pos hx]
     have HX:=hide hx
     clear hx
     go_wp2_with fail
     refine (takeOld (HCs.out.below hBw) hZ0 (by rw [HGP.out];exact HX.out)).mono ?_
     rintro e w2 ⟨rfl,hw⟩
     rw [hw,errV_ne (by decide)]
     clear hw
     go_wp2_with fail
     go_ret
     exact ⟨ret_val (by rw [HE.out];rfl),⟨xs,tk,HCs.out.below hBw,fun h=>absurd (HE.out.symm.trans h) (by decide)⟩,hBw.tcs⟩
    ·have HE:Hid (stmtE E.t sc tk s=0):=by show _=_;rw [stmtE_decl HQ.out hk1,if_neg hx]
     have HX:=hide hx
     clear hx
     go_wp2_with fail
     refine (takeNew (HCs.out.below hBw) hZ0 o_ (by rw [HGP.out];exact HX.out)).mono ?_
     rintro e w2 ⟨rfl,hc2,ht2⟩
     have HC2:=hide hc2
     have HT2:=hide ht2
     have hne:w.heap.size≠bt:=by have:=HCs.out.lt bt (by simp);omega
     have hsz:=hB.size
     simp only [World.size_alloc] at hsz
     have y1:w2.cell? ⟨w.heap.size,1,none⟩=some (.string s.name):=(World.cell?_of_block (a:=⟨w.heap.size,1,none⟩) (HT2.out.block w.heap.size o_ hne)).trans x1
     have HL2:Hid (w.heap.size<w2.drew.heap.size):=Nat.lt_of_lt_of_le o_ HT2.out.size
     have HN2:Hid (¬w.heap.size=b):=by have:=HCs.out.lt b (by simp);show ¬_;omega
     clear hc2 ht2 x0 x1
     go_wp2_with fail
     go_region_held3 (fun W=>W.cell? ⟨w.heap.size,1,none⟩=some (.string s.name)) (go_simp)
      (first
      | (go_at_call 156;refine (addK (HC2.out.below ((Below.refl _ _).drew)) hZ0 o_).mono ?_;rintro e w3 ⟨⟨u,rfl⟩,hc3,ht3⟩;have hcc:w3.cell? ⟨w.heap.size,1,none⟩=some (.string s.name):=(World.cell?_of_block (a:=⟨w.heap.size,1,none⟩) (ht3.block w.heap.size HL2.out HN2.out)).trans y1))
     go_wp2_with fail
     go_ret
     exact ⟨ret_val (by rw [HE.out];rfl),⟨xs++[s.name],tk++[s.name],hc3,fun _=>⟨(scp_yes hk1' xs).symm,(scp_yes hk1' tk).symm⟩⟩,(((hBw.tcs (S:=fun k=>k=bt∨k=b)).trans (HT2.out.mono (fun k h=>.inl h))).drew).trans (ht3.mono (fun k h=>.inr h))⟩
   by_cases hk2:s.kind=2
   ·have HE:Hid (stmtE E.t sc tk s=useE E.t.globals sc s.name false):=by
     show _=_
     rw [stmtE_use HQ.out (.inl hk2)]
     simp [hk2]
    have HK:=hide hk1
    rw [hk2] at x0
    clear hk2
    go_wp2_with fail
    refine (useC_any ((HCs.out.below hBw).ck HGF.out) HP.out s.name hZ0 false).mono ?_
    rintro e w2 ⟨rfl,hb2⟩
    rw [<-HSC.out,<-HE.out]
    have hB2:Bl w w2:=hBw.trans (hb2.mono hBw.size)
    obtain ⟨ev,hev⟩ : ∃ev,ev=errV (stmtE E.t sc tk s) fn st:=⟨_,rfl⟩
    rw [<-hev]
    have HV:=hide hev
    clear hev hb2
    go_wp2_with fail
    go_ret
    exact ⟨ret_val HV.out,⟨xs,tk,HCs.out.below hB2,fun _=>⟨(scp_no HK.out xs).symm,(scp_no HK.out tk).symm⟩⟩,hB2.tcs⟩
   by_cases hk3:s.kind=3
   ·have HE:Hid (stmtE E.t sc tk s=useE E.t.globals sc s.name true):=by
     show _=_
     rw [stmtE_use HQ.out (.inr hk3)]
     simp [hk3]
    have HK:=hide hk1
    rw [hk3] at x0
    clear hk3
    go_wp2_with fail
    refine (useC_any ((HCs.out.below hBw).ck HGF.out) HP.out s.name hZ0 true).mono ?_
    rintro e w2 ⟨rfl,hb2⟩
    rw [<-HSC.out,<-HE.out]
    have hB2:Bl w w2:=hBw.trans (hb2.mono hBw.size)
    obtain ⟨ev,hev⟩ : ∃ev,ev=errV (stmtE E.t sc tk s) fn st:=⟨_,rfl⟩
    rw [<-hev]
    have HV:=hide hev
    clear hev hb2
    go_wp2_with fail
    go_ret
    exact ⟨ret_val HV.out,⟨xs,tk,HCs.out.below hB2,fun _=>⟨(scp_no HK.out xs).symm,(scp_no HK.out tk).symm⟩⟩,hB2.tcs⟩
   ·have HE:Hid (stmtE E.t sc tk s=0):=stmtE_none HQ.out hk1 hk2 hk3
    have HK:=hide hk1
    have b1:(s.kind == 1)=false:=by simpa using hk1
    have b2:(s.kind == 2)=false:=by simpa using hk2
    have b3:(s.kind == 3)=false:=by simpa using hk3
    go_wp2_with fail
    go_ret
    exact ⟨ret_val (by rw [HE.out];rfl),⟨xs,tk,HCs.out.below hBw,fun _=>⟨(scp_no HK.out xs).symm,(scp_no HK.out tk).symm⟩⟩,hBw.tcs⟩
theorem info_str:(Tryz.prog.info? 9).map (fun i=>(i.zero,i.size,i.bytes))=some (some (.string ⟨#[]⟩),1,16):=by kernel_rfl
def SSrc (w:World) (v:Value) (us:List ByteArray):Prop:=∃a cap,v = .slice a us.length cap/\(a=none->us = [])/\∀ad,a=some ad->∀j u,(us.map Value.string)[j]? = some u->w.cell? (ad.add j)=some u
theorem addr_addK (b o j:Nat):(⟨b,o,none⟩:Addr).add j=⟨b,o+j,none⟩:=by simp only [Addr.add];split <;> simp_all
theorem Strs.src {w:World} {v:Value} {us:List ByteArray} (h:Strs w v us):SSrc w v us:=by
 obtain ⟨a,cap,rfl,-,-,h⟩:=h
 by_cases hp:0<us.length
 ·obtain ⟨b,off,rfl,hc⟩:=h hp
  refine ⟨_,cap,rfl,(fun h=>by cases h),fun ad had j u hj => ?_⟩
  obtain rfl:=Option.some.inj had
  have hl:j<us.length:=by
   have:=(List.getElem?_eq_some_iff.1 hj).1
   simpa using this
  have e:u = .string us[j]:=by simpa [hl] using hj.symm
  rw [addr_addK,e]
  exact hc j hl
 ·have h0:us = []:=List.eq_nil_of_length_eq_zero o_
  subst h0
  exact ⟨a,cap,rfl,fun _=>rfl,fun ad _ j u hj=>by simp at hj⟩
theorem ssrc_1 (w:World) (x:ByteArray) (t:TypeId):SSrc (w.alloc (.cells #[.string x] t)) (.slice (some ⟨w.heap.size,0,none⟩) 1 1) [x]:=by
 refine ⟨_,1,rfl,(fun h=>by cases h),fun ad h j u hj => ?_⟩
 obtain rfl:=Option.some.inj h
 have hl:j=0:=by
  have:=(List.getElem?_eq_some_iff.1 hj).1
  simp at this
  omega
 subst hl
 simp at hj
 rw [addr_addK,<-hj]
 simp
def SRow (B:Nat) (w:World) (v:Value) (us:List ByteArray):Prop:=w.ownsRow B 9 1 v us.length (us.map (Value.string))
theorem SRow.shape {B:Nat} {w:World} {v:Value} {us:List ByteArray} (h:SRow B w v us) : ∃a c,v = .slice a us.length c:=by
 rcases h.2 with ⟨rfl,hz⟩ | ⟨g,cap,cur,rfl,_⟩
 ·exact ⟨none,0,by rw [hz]⟩
 ·exact ⟨_,cap,rfl⟩
theorem SRow.below {B:Nat} {w w':World} {v:Value} {us:List ByteArray} (h:SRow B w v us) (hb:Below w.heap.size w w'):SRow B w' v us:=by
 obtain ⟨g1,g2⟩:=h
 refine ⟨g1,?_⟩
 rcases g2 with g2 | ⟨g,cap,cur,rfl,g3,g4,g5⟩
 ·exact .inl g2
 ·refine .inr ⟨g,cap,cur,rfl,g3,?_,g5⟩
  rw [hb.block g (Array.getElem?_eq_some_iff.1 g4).1]
  exact g4
theorem srow_lit (W:World) (B:Nat) (hB:B<=W.heap.size):SRow B (W.alloc (.cells #[] 9)) (.slice (some ⟨W.heap.size,0,none⟩) 0 0) []:=World.ownsRow_lit W #[] 0 hB (by decide) rfl
theorem run_appS {w:World} (base:Nat) (ty:TypeId) (v:Value) (xs:List ByteArray) (hown:SRow base w v xs) (x:Value) (us:List ByteArray) (hx:SSrc w x us) (hm:xs.length+us.length<=10000000) (hbase:base<=w.heap.size) :
  ∃v' w',(Builtin.append_ #[43,43] ty #[v,x]).run Tryz.prog w = .ok v' w'/\SRow base w' v' (xs++us)/\w.grownBy w' v.ownBlock/\∀k,v'.ownBlock=some k->v.ownBlock=some k∨w.heap.size<=k:=by
 obtain ⟨i0,hi,hz0,hz1,hz2⟩:=info_parts info_str
 obtain ⟨a,cap,rfl,h2,h3⟩:=hx
 cases a with
 | none=>
  obtain rfl:=h2 rfl
  have hr:(Builtin.append_ #[43,43] ty #[v,.slice none ([]:List ByteArray).length cap]).run Tryz.prog w = .ok v w:=by
   rcases hown.2 with ⟨rfl,hn⟩ | ⟨g,cap',cur,rfl,_,_,hnc,_⟩
   ·simp [Builtin.append_,run_underlying Tryz.underlying43,sizeOf,typeInfo,hi,Builtin.lenOf,Builtin.firstCells]
   ·simp [Builtin.append_,run_underlying Tryz.underlying43,sizeOf,typeInfo,hi,Builtin.lenOf,Builtin.firstCells,hnc,storeCells]
  exact ⟨v,w,hr,by simpa using hown,⟨rfl,rfl,rfl,Nat.le_refl _,fun _ _ _=>rfl⟩,fun k hk=>.inl hk⟩
 | some ad=>
  obtain ⟨v',w',r1,r2,r3,r4⟩:=app_freshG (P:=Tryz.prog) (w:=w) base 43 ty 9 i0 _ 1 16 Tryz.underlying43 hi hz0 hz1 hz2 rfl (by decide) v xs.length (xs.map (Value.string)) hown ad us.length cap (us.map (Value.string)) (by simp) (h3 ad rfl) (by intro u hu;simp at hu;obtain ⟨y,_,rfl⟩:=hu;rfl) hm (by decide) hbase
  refine ⟨v',w',r1,?_,r3,r4⟩
  unfold SRow
  rw [l_a,List.map_append]
  exact r2
theorem step_appS {w:World} {ops:Array Oper} {o:Oper} {a:Act} {K:Act->World->Prop} {Q:Exit->Act->World->Prop} {E:Prop} (hgd:o.guard=none) (s x:Operand)
  (ho:o.op = .call {callee:=.builtin .append,args:=#[s,x],argTypes:=#[43,43]})
  (base:Nat) (v:Value) (xs:List ByteArray) (hs:a.eval s=v) (hown:SRow base w v xs) (xv:Value) (us:List ByteArray) (hxv:a.eval x=xv) (hx:SSrc w xv us)
  (hm:xs.length+us.length<=10000000) (hbase:base<=w.heap.size)
  (h : ∀v' w',SRow base w' v' (xs++us)->w.grownBy w' v.ownBlock->(∀k,v'.ownBlock=some k->v.ownBlock=some k∨w.heap.size<=k)->K (a.put o.dst v') w') :
  if Region.wanted o (yielded ops a.tmps)=true then Oper.wp Tryz.prog o a w K Q else E:=by
 have hw:Region.wanted o (yielded ops a.tmps)=true:=by simp [Region.wanted,hgd]
 rw [if_pos hw]
 obtain ⟨v',w',hr,h2,h3,h4⟩:=run_appS (w:=w) base o.type v xs hown xv us hx hm hbase
 unfold Oper.wp execOp
 simp only [ho,resolve,invoke,builtin,Sem.run_bind,Sem.run_pure,Result.andThen_ok,List.map_toArray,List.map_cons,List.map_nil,hs,hxv,hr]
 exact h v' w' h2 h3 h4
theorem SRow.strs {B:Nat} {w:World} {v:Value} {us:List ByteArray} (h:SRow B w v us) (hm:us.length<=10000000):Strs w v us:=by
 have h0:=h
 rcases h.2 with ⟨rfl,hz⟩ | ⟨g,cap,cur,rfl,hbg,hh,hc1,hc2,hc3,hc4⟩
 ·exact ⟨none,0,by rw [hz],by omega,by omega,fun h=>absurd h o_⟩
 ·refine ⟨_,cap,rfl,?_,?_,fun _=>⟨g,0,rfl,fun j hj => ?_⟩⟩
  ·first | omega | exact hc1
  ·first | omega | (unfold maxLen at *;omega)
  ·have:=World.ownsRow.cells h0 (g:=g) rfl j (.string us[j]) (by simp [hj])
   rw [addr_addK] at this
   exact this
theorem ssrc_cell {w:World} {b:Nat} {x:ByteArray} (h:w.cell? ⟨b,0,none⟩=some (.string x)):SSrc w (.slice (some ⟨b,0,none⟩) 1 1) [x]:=by
 refine ⟨_,1,rfl,(fun h=>by cases h),fun ad had j u hj => ?_⟩
 obtain rfl:=Option.some.inj had
 have hl:j=0:=by
  have:=(List.getElem?_eq_some_iff.1 hj).1
  simp at this
  omega
 subst hl
 simp at hj
 rw [addr_addK,<-hj]
 exact h
theorem appA (W:World) (v:Value) (us:List ByteArray) (h:Strs W v us):SRow W.heap.size (W.drew.alloc (.cells #[] 9)) (.slice (some ⟨W.heap.size,0,none⟩) 0 0) []/\SSrc (W.drew.alloc (.cells #[] 9)) v us/\Below W.heap.size W (W.drew.alloc (.cells #[] 9)):=by
 have hb:Bl W (W.drew.alloc (.cells #[] 9)):=((Below.refl W.heap.size W).drew).alloc (Nat.le_refl _) _
 exact ⟨srow_lit W.drew _ (Nat.le_refl _),(h.below hb).src,hb⟩
theorem appB (W:World) (v:Value) (us:List ByteArray) (x:ByteArray) (h:Strs W v us):SRow W.heap.size ((W.drew.alloc (.cells #[] 9)).alloc (.cells #[.string x] 9)) (.slice (some ⟨W.heap.size,0,none⟩) 0 0) []/\SSrc ((W.drew.alloc (.cells #[] 9)).alloc (.cells #[.string x] 9)) v us/\Below W.heap.size W ((W.drew.alloc (.cells #[] 9)).alloc (.cells #[.string x] 9))/\((W.drew.alloc (.cells #[] 9)).alloc (.cells #[.string x] 9)).cell? ⟨W.heap.size+1,0,none⟩=some (.string x):=by
 have hb1:Bl W (W.drew.alloc (.cells #[] 9)):=((Below.refl W.heap.size W).drew).alloc (Nat.le_refl _) _
 have hb:Bl W ((W.drew.alloc (.cells #[] 9)).alloc (.cells #[.string x] 9)):=hb1.alloc hb1.size _
 exact ⟨(srow_lit W.drew _ (Nat.le_refl _)).below (bel_a _ _),(h.below hb).src,hb,(World.cell?_alloc_at _ _ _ _ (by simp)).trans rfl⟩
theorem appC (W:World) (v:Value) (us:List ByteArray) (x:ByteArray) (h:Strs W v us):SRow W.heap.size ((W.drew.alloc (.cells #[.string x] 9)).alloc (.cells #[] 9)) (.slice (some ⟨W.heap.size+1,0,none⟩) 0 0) []/\SSrc ((W.drew.alloc (.cells #[.string x] 9)).alloc (.cells #[] 9)) v us/\Below W.heap.size W ((W.drew.alloc (.cells #[.string x] 9)).alloc (.cells #[] 9))/\((W.drew.alloc (.cells #[.string x] 9)).alloc (.cells #[] 9)).cell? ⟨W.heap.size,0,none⟩=some (.string x):=by
 have hb1:Bl W (W.drew.alloc (.cells #[.string x] 9)):=((Below.refl W.heap.size W).drew).alloc (Nat.le_refl _) _
 have hb:Bl W ((W.drew.alloc (.cells #[.string x] 9)).alloc (.cells #[] 9)):=hb1.alloc hb1.size _
 have h1:=srow_lit (W.drew.alloc (.cells #[.string x] 9)) W.heap.size (by simp)
 have e:(W.drew.alloc (.cells #[.string x] 9)).heap.size=W.heap.size+1:=by simp
 rw [e] at h1
 refine ⟨h1,(h.below hb).src,hb,?_⟩
 rw [World.cell?_alloc_lt _ _ ⟨W.heap.size,0,none⟩ (by simp)]
 exact (World.cell?_alloc_at _ _ _ _ (by simp)).trans rfl
theorem appN {W W1 w1:World} {v:Value} {xs:List ByteArray} (hb:Below W.heap.size W W1) (hr:SRow W.heap.size W1 v xs) (hg:W1.grownBy w1 v.ownBlock):Below W.heap.size W w1:=hb.grown hg hb.size (fun j hj=>(World.ownsRow.lt hr j hj).1)
theorem drop_cons2 {α:Type} (l:List α) (j:Nat) (h:j<l.length):l.drop j=l[j]::l.drop (j+1):=(List.getElem_cons_drop h).symm
theorem drop_take_2 {α:Type} (l:List α) (i j:Nat):(l.take (i+j)).drop i=(l.drop i).take j:=by
 rw [List.drop_take];congr 1;omega
theorem drop_take_3 {α:Type} (l:List α) (k i j:Nat):(l.take (k+i+j)).drop (k+i)=((l.drop k).take (i+j)).drop i:=by
 rw [drop_take_2,drop_take_2,List.drop_drop]
structure TrV (w:World) (t:Tr) (vg vf:Value):Prop where
 g:Globs w vg t.globals
 f:Funcs w vf t.funcs
theorem TrV.below {w w':World} {t:Tr} {vg vf:Value} (h:TrV w t vg vf) (hb:Below w.heap.size w w'):TrV w' t vg vf:=⟨h.g.below hb,h.f.below hb⟩
def L3Block (n:Nat):Prop:=∀(t:Tr) (vg vf vb vs vt:Value) (ss:List St) (a:Int) (sc tk:List ByteArray) (w:World),ss.length<=n->TrV w t vg vf->Stmts w vb ss->fitB ss=true->(∀s∈ss,smallS s)->Strs w vs sc->Strs w vt tk->t.globals.length<=1048576->t.funcs.length<=1048576 ->
 sc.length+ss.length<=800000->tk.length+ss.length<=800000->0<=a->a+ss.length<=800000 ->
 Calls Tryz.prog 115 #[.agg #[vg,vf],vb,.int .i64 a,vs,vt] w fun e w'=>∃vt',e = .returned (.tuple #[.int .i64 (blkE t ss a sc tk).1,.int .i64 (blkE t ss a sc tk).2.1,vt'])/\Strs w' vt' (blkE t ss a sc tk).2.2/\Below w.heap.size w w'
theorem Strs.shape {w:World} {v:Value} {us:List ByteArray} (h:Strs w v us) : ∃a c,v = .slice a us.length c:=by
 obtain ⟨a,c,rfl,-⟩:=h
 exact ⟨a,c,rfl⟩
end Go.Proofs.YtnpidjamplmgjaaGreatDoor
