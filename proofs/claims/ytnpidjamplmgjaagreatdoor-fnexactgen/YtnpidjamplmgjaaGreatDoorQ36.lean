import Derived.Test.YtnpidjamplmgjaaGreatDoorQ35
import Derived.Test.YtnpidjamplmgjaaGreatDoorQ24
set_option linter.unusedSectionVars false
variable [Inhabited Go.Proofs.YtnpidjamplmgjaaGreatDoor.Pick]
namespace Go.Proofs.YtnpidjamplmgjaaGreatDoor
open Go.RowKit
set_option linter.unusedVariables false
set_option linter.unusedSimpArgs false
set_option maxRecDepth 100000
set_option maxHeartbeats 16000000
def locG (ns:List ByteArray) (s:ByteArray):Int:=match locN ns s with | some x=>x | none => -1
theorem locG_at {ns:List ByteArray} {s:ByteArray} {k:Nat} (hk:k<ns.length) (h:ns[k]=s) (hb : ∀j (hj:j<ns.length),j<k->ns[j]≠s):locG ns s=4*(k:Int):=by
 unfold locG locN
 have:ns.findIdx? (fun x=>decide (x=s))=some k:=by
  rw [List.findIdx?_eq_some_iff_getElem]
  exact ⟨hk,by simpa using h,fun j hj=>by simpa using hb j o_ hj⟩
 rw [this]
 rfl
theorem locG_none {ns:List ByteArray} {s:ByteArray} (hb : ∀j (hj:j<ns.length),ns[j]≠s):locG ns s = -1:=by
 unfold locG locN
 have:ns.findIdx? (fun x=>decide (x=s))=none:=by
  rw [List.findIdx?_eq_none_iff]
  intro x hx
  obtain ⟨j,hj,rfl⟩:=List.getElem_of_mem hx
  simpa using hb j hj
 rw [this]
 rfl
theorem localG_any (P:Nat) (its:List It) (vg vf vn:Value) (fr en l:Int) (ns:List ByteArray) (s:ByteArray) (w:World) (hO:Es P w its vg vf vn fr en l) (hs:Strs w vn ns) (hn:ns.length<=1000000) :
  Calls Tryz.prog 93 #[.pointer (some ⟨P,0,none⟩),.string s] w fun e w'=>e = .returned (.int .i64 (locG ns s))/\w'=w:=by
 have h2:w.cell? ⟨P,2,none⟩=some vn:=hO.oth 2 (by decide) (by decide)
 obtain ⟨a,c,rfl,-,-,hc⟩:=hs
 have HC:=hide hc
 go_enter Tryz.func93,Tryz.ntmps93
 go_wp2_with fail
 go_loopw [5] (fun i wr=>∃k:Nat,k<=ns.length/\i = .int .i64 k/\(∀j (h:j<ns.length),j<k->ns[j]≠s)/\wr=w) (fun i _=>ns.length-(RowKit.intOf i).toNat)
 case atStart=>exact ⟨0,Nat.zero_le _,rfl,fun j _ h=>absurd h (Nat.not_lt_zero _),rfl⟩
 case round=>
  obtain ⟨k,hk,rfl,hall,rfl⟩:=hrel
  have HAll:=hide hall
  by_cases hlt:k<ns.length
  ·obtain ⟨b,off,rfl,hcell⟩:=HC.out o_
   have d0:=hcell k hlt
   by_cases he:ns[k]=s
   ·have HR:Hid (locG ns s=4*(k:Int)):=locG_at hlt he HAll.out
    rw [he] at d0
    have k1:IntKind.i64.wrap (4*(k:Int))=4*(k:Int):=by simp [IntKind.wrap,IntKind.bits,IntKind.signed];omega
    go_wp2_with fail
    go_ret
    exact ⟨by rw [HR.out];rfl,rfl⟩
   ·have HK:Hid (∀j (h:j<ns.length),j<k+1->ns[j]≠s):=fun j hj hjk=>by
     by_cases e:j=k
     ·subst e;exact he
     ·exact HAll.out j hj o_
    have he':=ne_list he
    generalize ns[k]=z at d0 he he'
    go_wp2_with fail
    go_roundw
    case rel=>exact ⟨k+1,by omega,by go_num,HK.out,trivial⟩
    case measure=>simp [RowKit.intOf];omega
  ·have HR:Hid (locG ns s = -1):=locG_none (fun j hj=>HAll.out j hj o_)
   go_wp2_with fail
   go_ret
   exact ⟨by rw [HR.out];rfl,rfl⟩
theorem globA_step {gs:List Gl} {s:ByteArray} {k:Nat} {at_:Int} (hk:k<gs.length) (h:gs[k].name≠s):globA (gs.drop k) s at_=globA (gs.drop (k+1)) s (at_+4*max 1 gs[k].size):=by
 rw [List.drop_eq_getElem_cons hk]
 simp [globA,h]
theorem globA_at {gs:List Gl} {s:ByteArray} {k:Nat} {at_:Int} (hk:k<gs.length) (h:gs[k].name=s):globA (gs.drop k) s at_=at_:=by
 rw [List.drop_eq_getElem_cons hk]
 simp [globA,h]
theorem globA_end {gs:List Gl} {s:ByteArray} {at_:Int}:globA (gs.drop gs.length) s at_=at_:=by
 rw [List.drop_length]
 simp [globA]
theorem globalG_any (gs:List Gl) (s:ByteArray) (vg vf:Value) (w:World) (hv : ∃a n c,vf = .slice a n c) (hg:Globs w vg gs) (hl:gs.length<=50) (hz : ∀g∈gs,0<=g.size/\g.size<=4000) :
  Calls Tryz.prog 95 #[.agg #[vg,vf],.string s] w fun e w'=>e = .returned (.int .i64 (globA gs s 1048576))/\Below w.heap.size w w':=by
 obtain ⟨af,nf,cf,rfl⟩:=hv
 obtain ⟨a,c,rfl,-,-,hc⟩:=hg
 have HC:=hide hc
 have HZ:=hide hz
 clear hc hz
 obtain ⟨W0,hW0⟩ : ∃W0,W0=w.alloc (.cells #[.slice a gs.length c,.slice af nf cf] 32):=⟨_,rfl⟩
 have hB0:Bl w W0:=by rw [hW0];exact (Below.refl _ _).alloc (Nat.le_refl _) _
 have hx : ∀W,Bl W0 W->W.cell? ⟨w.heap.size,0,none⟩=some (.slice a gs.length c):=fun W hW=>by
  rw [hW.cell (p:=⟨w.heap.size,0,none⟩) (by rw [hW0];simp),hW0]
  simp
 have HX:=hide hx
 have HW0:=hide hW0
 clear hx hW0
 obtain ⟨R,hR⟩ : ∃R,R=globA gs s 1048576:=⟨_,rfl⟩
 rw [<-hR]
 have HR0:Hid (R=globA (gs.drop 0) s 1048576):=by rw [List.drop_zero];exact hR
 clear hR
 go_enter Tryz.func95,Tryz.ntmps95
 go_wp2_with fail
 rw [<-HW0.out]
 go_loopw [5,6] (fun p i wr=>∃(k:Nat) (at_:Int),k<=gs.length/\i = .int .i64 k/\p = .int .i64 at_/\0<=at_/\at_<=1048576+16000*k/\R=globA (gs.drop k) s at_/\Bl W0 wr) (fun _ i _=>gs.length-(RowKit.intOf i).toNat)
 case atStart=>exact ⟨0,1048576,Nat.zero_le _,rfl,rfl,by omega,by omega,HR0.out,Below.refl _ _⟩
 case round=>
  obtain ⟨k,at_,hk,rfl,rfl,h0,h1,hR,hB⟩:=hrel
  have HR:=hide hR
  clear hR HR0
  have x0:=HX.out wr hB
  have hBw:Bl w wr:=hB0.trans (hB.mono hB0.size)
  by_cases hlt:k<gs.length
  ·obtain ⟨b,off,rfl,hcell⟩:=HC.out o_
   obtain ⟨d0,d1⟩:=(hcell.below hBw) k hlt
   have hzk:=HZ.out _ (List.getElem_mem hlt)
   by_cases he:gs[k].name=s
   ·have HE:Hid (R=at_):=by show _=_;rw [HR.out];exact globA_at hlt he
    rw [he] at d0
    clear he hcell
    generalize gs[k].size=z at d1 hzk
    go_wp2_with fail
    go_ret
    exact ⟨by rw [HE.out];rfl,hBw⟩
   ·have HS:Hid (R=globA (gs.drop (k+1)) s (at_+4*max 1 gs[k].size)):=by show _=_;rw [HR.out];exact globA_step hlt he
    have he':=ne_list he
    generalize gs[k].name=nm at d0 he he'
    generalize gs[k].size=z at d1 hzk HS
    have hm:1<=max 1 z/\max 1 z<=4000:=by omega
    have HM:=most_any 1 z wr
    generalize max 1 z=mz at HS hm HM
    have k1:IntKind.i64.wrap (4*mz)=4*mz:=by simp [IntKind.wrap,IntKind.bits,IntKind.signed];omega
    have k2:IntKind.i64.wrap (at_+4*mz)=at_+4*mz:=by simp [IntKind.wrap,IntKind.bits,IntKind.signed];omega
    clear hcell HR
    go_wp2_with fail
    refine HM.mono ?_
    rintro e w2 ⟨rfl,hb2⟩
    have hB2:=hB.trans (hb2.mono hB.size)
    clear hb2 d0 d1 x0 HM
    go_wp2_with fail
    go_roundw
    case rel=>exact ⟨k+1,at_+4*mz,by omega,by go_num,rfl,by omega,by omega,HS.out,hB2⟩
    case measure=>simp [RowKit.intOf];omega
  ·have HE:Hid (R=at_):=by
    show _=_
    obtain rfl:k=gs.length:=by omega
    rw [HR.out]
    exact globA_end
   go_wp2_with fail
   go_ret
   exact ⟨by rw [HE.out];rfl,hBw⟩
def NmS (P:Nat) (w:World) (vn:Value) (ns:List ByteArray):Prop:=∃a c,vn = .slice a ns.length c/\ns.length<=c/\c<=9223372036854775807/\(0<ns.length->∃b off,a=some ⟨b,off,none⟩/\b≠P/\some b≠rbq 6 w P/\StrsC w b off ns)
theorem NmS.strs {P:Nat} {w:World} {vn:Value} {ns:List ByteArray} (h:NmS P w vn ns):Strs w vn ns:=by
 obtain ⟨a,c,h1,h2,h3,h4⟩:=h
 refine ⟨a,c,h1,h2,h3,fun h0 => ?_⟩
 obtain ⟨b,off,e,_,_,h5⟩:=h4 h0
 exact ⟨b,off,e,h5⟩
theorem NmS.wq {P:Nat} {w w':World} {vn:Value} {ns:List ByteArray} (h:NmS P w vn ns) (hW:Wq 6 P w w'):NmS P w' vn ns:=by
 obtain ⟨a,c,h1,h2,h3,h4⟩:=h
 refine ⟨a,c,h1,h2,h3,fun h0 => ?_⟩
 obtain ⟨b,off,e,hb,hr,h5⟩:=h4 h0
 refine ⟨b,off,e,hb,fun he => ?_,fun j hj=>hW.cell hb hr (h5 j hj)⟩
 have hlt:=World.block_lt_of_cell? _ _ (h5 0 h0)
 rcases hW.row b he.symm with h | h
 ·exact hr h.symm
 ·simp at hlt;omega
structure GC where
 w0:World
 P:Nat
 vg:Value
 vf:Value
 vn:Value
 gs:List Gl
 fs:List Fu
 ns:List ByteArray
 fr:Int
 en:Int
structure GC.Ok (C:GC):Prop where
 p:C.w0.heap.size<=C.P
 g:Globs C.w0 C.vg C.gs
 f:Funcs C.w0 C.vf C.fs
 gl:C.gs.length<=50
 gz : ∀g∈C.gs,0<=g.size/\g.size<=4000
 fl:C.fs.length<=50
 nl:C.ns.length<=1000
def envG (gs:List Gl) (fs:List Fu) (ns:List ByteArray):GEnv:=⟨ns.length,locN ns,fun s=>globA gs s 1048576,fnumG fs⟩
def GC.E (C:GC):GEnv:=envG C.gs C.fs C.ns
structure Gs (C:GC) (w:World) (its:List It) (l:Int):Prop where
 es:Es C.P w its C.vg C.vf C.vn C.fr C.en l
 bel:Below C.w0.heap.size C.w0 w
 nm:NmS C.P w C.vn C.ns
theorem Em.rlt {ti q n P:Nat} {w:World} {its:List It} {c:Nat->Value} (h:Em ti q n P w its c) {k:Nat} (hk:rbq q w P=some k):P<k/\k<w.heap.size:=by
 obtain ⟨v,h1,h2⟩:=h.row
 unfold rbq at hk
 rw [h1] at hk
 have:=World.ownsRow.lt h2 k hk
 omega
theorem Gs.wq {C:GC} (hC:C.Ok) {w w':World} {its its':List It} {l l':Int} (h:Gs C w its l) (he:Es C.P w' its' C.vg C.vf C.vn C.fr C.en l') (hW:Wq 6 C.P w w'):Gs C w' its' l':=by
 refine ⟨he,?_,h.nm.wq hW⟩
 have hp:=hC.p
 refine h.bel.trans ⟨hW.still.1,hW.still.2.1,hW.still.2.2,Nat.le_trans (Nat.le_refl _) hW.size,fun k hk => ?_⟩
 refine hW.block k ?_ o_ (fun e => ?_)
 ·have:=h.bel.size;omega
 ·have:=h.es.rlt e.symm
  omega
theorem Gs.below {C:GC} (hC:C.Ok) {w w':World} {its:List It} {l:Int} (h:Gs C w its l) (hb:Below w.heap.size w w'):Gs C w' its l:=h.wq hC (h.es.below hb) (Wq.below h.es.lt hb)
structure Wd (C:GC) (w:World) (its new:List It) (l':Int) (w':World):Prop where
 gs:Gs C w' (its++new) l'
 wq:Wq 6 C.P w w'
theorem Wd.trans {C:GC} {w w1 w2:World} {its a b:List It} {l l':Int} (h:Wd C w its a l w1) (h':Wd C w1 (its++a) b l' w2):Wd C w its (a++b) l' w2:=⟨by rw [<-List.append_assoc];exact h'.gs,h.wq.trans h'.wq⟩
theorem Wd.bel {C:GC} (hC:C.Ok) {w w1 w2:World} {its a:List It} {l:Int} (h:Wd C w its a l w1) (hb:Below w1.heap.size w1 w2):Wd C w its a l w2:=⟨h.gs.below hC hb,h.wq.trans (Wq.below h.gs.es.lt hb)⟩
theorem Wd.pre {C:GC} {w w1 w2:World} {its a:List It} {l:Int} (h:Wd C w1 its a l w2) (hb:Wq 6 C.P w w1):Wd C w its a l w2:=⟨h.gs,hb.trans h.wq⟩
theorem Wd.nil {C:GC} {w:World} {its:List It} {l:Int} (h:Gs C w its l):Wd C w its [] l w:=⟨by rw [List.append_nil];exact h,Wq.refl _ _ _⟩
theorem Wd.of {C:GC} (hC:C.Ok) {w w':World} {its new:List It} {l l':Int} (h:Gs C w its l) (hw:Wrote C.P w its new C.vg C.vf C.vn C.fr C.en l' w'):Wd C w its new l' w':=⟨h.wq hC hw.1 hw.2,hw.2⟩
theorem GC.vnS {C:GC} {w:World} (h:NmS C.P w C.vn C.ns) : ∃a c,C.vn = .slice a C.E.n c:=by
 obtain ⟨a,c,e,_⟩:=h
 exact ⟨a,c,e⟩
theorem GC.glob_bd (C:GC) (hC:C.Ok) (s:ByteArray):1048576<=C.E.glob s/\C.E.glob s<=2000000:=by
 have h:=globA_bd C.gs s hC.gz 1048576
 have:=hC.gl
 show 1048576<=globA C.gs s 1048576/\globA C.gs s 1048576<=2000000
 omega
theorem putC (C:GC) (hC:C.Ok) (w:World) (its:List It) (l:Int) (hG:Gs C w its l) (op rd s1 s2 im:Int) (hi:its.length<=9000000):Calls Tryz.prog 18 #[.pointer (some ⟨C.P,0,none⟩),.int .i64 op,.int .i64 rd,.int .i64 s1,.int .i64 s2,.int .i64 im] w fun e w'=>(∃u,e = .returned u)/\Wd C w its [insI op rd s1 s2 im] l w':=
 (putS C.P its _ _ _ _ _ _ op rd s1 s2 im w hG.es hi).mono (fun _ _ h=>⟨h.1,Wd.of hC hG h.2⟩)
theorem markC (C:GC) (hC:C.Ok) (w:World) (its:List It) (l:Int) (hG:Gs C w its l) (kd lb:Int) (hi:its.length<=9000000):Calls Tryz.prog 16 #[.pointer (some ⟨C.P,0,none⟩),.int .i64 kd,.int .i64 lb] w fun e w'=>(∃u,e = .returned u)/\Wd C w its [markI kd lb] l w':=
 (markG_any C.P its _ kd lb w hG.es hi).mono (fun _ _ h=>⟨h.1,Wd.of hC hG h.2⟩)
theorem branC (C:GC) (hC:C.Ok) (w:World) (its:List It) (l:Int) (hG:Gs C w its l) (op rg lb:Int) (hi:its.length<=9000000):Calls Tryz.prog 96 #[.pointer (some ⟨C.P,0,none⟩),.int .i64 op,.int .i64 rg,.int .i64 lb] w fun e w'=>(∃u,e = .returned u)/\Wd C w its [branI op rg lb] l w':=
 (branG_any C.P its _ op rg lb w hG.es hi).mono (fun _ _ h=>⟨h.1,Wd.of hC hG h.2⟩)
theorem labC (C:GC) (hC:C.Ok) (w:World) (its:List It) (l:Int) (hG:Gs C w its l) (hl:0<=l/\l<=1000000000):Calls Tryz.prog 39 #[.pointer (some ⟨C.P,0,none⟩)] w fun e w'=>e = .returned (.int .i64 l)/\Wd C w its [] (l+1) w':=
 (labG C.P its _ _ _ _ _ l w hG.es hl).mono (fun _ _ h=>⟨h.1,by have:=h.2.1;exact hG.wq hC (by rw [List.append_nil];exact this) h.2.2,h.2.2⟩)
theorem readC (C:GC) (hC:C.Ok) (w:World) (its:List It) (l:Int) (hG:Gs C w its l) (d sp:Int) (hi:its.length<=9000000) (hd:0<=d) (hd1:d<=1000000):Calls Tryz.prog 120 #[.pointer (some ⟨C.P,0,none⟩),.int .i64 d,.int .i64 sp] w fun e w'=>e = .returned (.int .i64 (regI d sp))/\Wd C w its (readL C.E d sp) l w':=by
 obtain ⟨an,cn,hv⟩:=GC.vnS hG.nm
 have hes:=hG.es
 rw [hv] at hes
 have hn:=hC.nl
 refine (readG_any C.P its _ _ an cn C.E _ _ l d sp w hes hi (by show C.ns.length<=_;omega) hd hd1).mono ?_
 rintro e w' ⟨h1,h2⟩
 rw [<-hv] at h2
 exact ⟨h1,Wd.of hC hG h2⟩
theorem writeC (C:GC) (hC:C.Ok) (w:World) (its:List It) (l:Int) (hG:Gs C w its l) (d:Int) (hi:its.length<=9000000) (hd:0<=d) (hd1:d<=1000000):Calls Tryz.prog 119 #[.pointer (some ⟨C.P,0,none⟩),.int .i64 d] w fun e w'=>(∃u,e = .returned u)/\Wd C w its (writeL C.E d) l w':=by
 obtain ⟨an,cn,hv⟩:=GC.vnS hG.nm
 have hes:=hG.es
 rw [hv] at hes
 have hn:=hC.nl
 refine (writeG_any C.P its _ _ an cn C.E _ _ l d w hes hi (by show C.ns.length<=_;omega) hd hd1).mono ?_
 rintro e w' ⟨h1,h2⟩
 rw [<-hv] at h2
 exact ⟨h1,Wd.of hC hG h2⟩
theorem wordC (C:GC) (hC:C.Ok) (w:World) (its:List It) (l:Int) (hG:Gs C w its l) (d:Int) (hd:0<=d) (hd1:d<=1000000):Calls Tryz.prog 150 #[.pointer (some ⟨C.P,0,none⟩),.int .i64 d] w fun e w'=>e = .returned (.int .i64 (wordI C.E d))/\w'=w:=by
 obtain ⟨an,cn,hv⟩:=GC.vnS hG.nm
 have hes:=hG.es
 rw [hv] at hes
 have hn:=hC.nl
 exact wordG_any C.P its _ _ an cn C.E _ _ l d w hes (by show C.ns.length<=_;omega) hd hd1
theorem answerC (C:GC) (hC:C.Ok) (w:World) (its:List It) (l:Int) (hG:Gs C w its l) (d:Int) (hi:its.length<=9000000) (hd:0<=d) (hd1:d<=1000000):Calls Tryz.prog 122 #[.pointer (some ⟨C.P,0,none⟩),.int .i64 d] w fun e w'=>(∃u,e = .returned u)/\Wd C w its (answerL C.E d) l w':=by
 obtain ⟨an,cn,hv⟩:=GC.vnS hG.nm
 have hes:=hG.es
 rw [hv] at hes
 have hn:=hC.nl
 refine (answerG_any C.P its _ _ an cn C.E _ _ l d w hes hi (by show C.ns.length<=_;omega) hd hd1).mono ?_
 rintro e w' ⟨h1,h2⟩
 rw [<-hv] at h2
 exact ⟨h1,Wd.of hC hG h2⟩
theorem loadC (C:GC) (hC:C.Ok) (w:World) (its:List It) (l:Int) (hG:Gs C w its l) (reg v:Int) (hi:its.length<=8999999) (hv : -2147483648<=v/\v<=2147483647):Calls Tryz.prog 94 #[.pointer (some ⟨C.P,0,none⟩),.int .i64 reg,.int .i64 v] w fun e w'=>(∃u,e = .returned u)/\Wd C w its (loadL reg v) l w':=
 (loadG_any C.P its _ _ _ _ _ l reg v w hG.es hi hv).mono (fun _ _ h=>⟨h.1,Wd.of hC hG h.2⟩)
theorem binC (C:GC) (hC:C.Ok) (w:World) (its:List It) (l:Int) (hG:Gs C w its l) (op r a b:Int) (hi:its.length<=8999999) (h0:0<=op) (h15:op<=15):Calls Tryz.prog 123 #[.pointer (some ⟨C.P,0,none⟩),.int .i64 op,.int .i64 r,.int .i64 a,.int .i64 b] w fun e w'=>(∃u,e = .returned u)/\Wd C w its (binL op r a b) l w':=
 (binG_any C.P its _ _ _ _ _ l op r a b w hG.es hi h0 h15).mono (fun _ _ h=>⟨h.1,Wd.of hC hG h.2⟩)
theorem localC (C:GC) (hC:C.Ok) (w:World) (its:List It) (l:Int) (hG:Gs C w its l) (s:ByteArray):Calls Tryz.prog 93 #[.pointer (some ⟨C.P,0,none⟩),.string s] w fun e w'=>e = .returned (.int .i64 (locG C.ns s))/\w'=w:=localG_any C.P its _ _ _ _ _ l C.ns s w hG.es hG.nm.strs (by have:=hC.nl;omega)
theorem globalC (C:GC) (hC:C.Ok) (w:World) (its:List It) (l:Int) (hG:Gs C w its l) (s:ByteArray) (vg vf:Value) (hvg:C.vg=vg) (hvf:C.vf=vf):Calls Tryz.prog 95 #[.agg #[vg,vf],.string s] w fun e w'=>e = .returned (.int .i64 (C.E.glob s))/\Below w.heap.size w w':=by
 subst hvg hvf
 have hf:=hC.f
 refine globalG_any C.gs s C.vg C.vf w ?_ (hC.g.below hG.bel) hC.gl hC.gz
 obtain ⟨a,c,e,_⟩:=hf
 exact ⟨a,_,c,e⟩
theorem rbq_below {q P:Nat} {w w':World} (hb:Below w.heap.size w w') (hP:P<w.heap.size):rbq q w' P=rbq q w P:=by
 unfold rbq
 rw [hb.cell (p:=⟨P,q,none⟩) hP]
theorem locG_some {ns:List ByteArray} {s:ByteArray} {z:Int} (h:locN ns s=some z):locG ns s=z/\0<=z:=by
 unfold locG
 rw [h]
 refine ⟨rfl,?_⟩
 unfold locN at h
 obtain ⟨i,_,hi⟩:=Option.map_eq_some_iff.1 h
 omega
theorem locG_no {ns:List ByteArray} {s:ByteArray} (h:locN ns s=none):locG ns s = -1:=by
 unfold locG
 rw [h]
def ExprS (C:GC) (e:List Nd) (g:Cod):Prop:=∀(v:Value) (w:World) (its:List It) (l d:Int),Nodes C.w0 v e->Gs C w its l->0<=d->d+7*e.length<=1000000->0<=l->l+e.length<=100000000->its.length+24*e.length<=8000000->Calls Tryz.prog 92 #[.pointer (some ⟨C.P,0,none⟩),v,.int .i64 d] w fun x w'=>(∃u,x = .returned u)/\Wd C w its (g d l).1 (g d l).2 w'
theorem callS_two (C:GC) (hC:C.Ok) (s:ByteArray) (A:Nat) (F:Nat->List Nd) (G:Nat->Cod) (va:Option Addr) (cap:Nat) (w:World) (its:List It) (l d:Int) (hA6:A<=6) (hcap:A<=cap) (hcap2:cap<=9223372036854775807) (hG:Gs C w its l)
  (hK:0<A->∃B,va=some ⟨B,0,none⟩/\∀i,i<A->∃vi,Nodes C.w0 vi (F i)/\∀w',Wq 6 C.P w w'->w'.cell? ⟨B,i,none⟩=some vi) (hX : ∀i,i<A->ExprS C (F i) (G i)) (hbd : ∀i,i<A->CB (F i).length (G i))
  (hd:0<=d) (hdl:d+7*((joinF F A).length+1)<=1000000) (hl0:0<=l) (hl2:l+(joinF F A).length+1<=100000000) (hil:its.length+24*((joinF F A).length+1)<=8000000) (hv:d<=5∨5<d) :
  Calls Tryz.prog 121 #[.pointer (some ⟨C.P,0,none⟩),.string s,.slice va A cap,.int .i64 d] w fun x w'=>(∃u,x = .returned u)/\Wd C w its (callC C.E s G A d l).1 (callC C.E s G A d l).2 w':=by
 rcases hv with hv | hv
 all_goals
  have HC:=hide hC
  have HK:=hide hK
  have HX:=hide hX
  have HAb:Hid (∀k,k<=A->(argsC G d k l).1.length<=24*(joinF F k).length/\l<=(argsC G d k l).2/\(argsC G d k l).2<=l+(joinF F k).length):=fun k hk=>args_cb k l (fun i hi=>hbd i o_)
  have HG:=hide hG
  first | (have q_:d<=5:=hv;obtain ⟨m,hm,hm5⟩ : ∃m:Nat,(min d 5).toNat=m/\(m:Int)=d:=⟨_,rfl,by omega⟩;clear q_) | (obtain ⟨m,hm,hm5⟩ : ∃m:Nat,(min d 5).toNat=m/\(m:Int)=5:=⟨_,rfl,by omega⟩)
  have HE:Hid (callC C.E s G A d l=((argsC G d A l).1++keepL C.E m++passL C.E d A++[markI 5 (C.E.fn s)]++backL C.E m++answerL C.E d,(argsC G d A l).2)):=by show _=_;simp only [callC,hm]
  clear hC hK hX hbd hG hm
  go_enter Tryz.func121,Tryz.ntmps121
  go_wp2_with fail
  go_loopw [8] (fun i wr=>∃k:Nat,k<=A/\i = .int .i64 k/\Wd C w its (argsC G d k l).1 (argsC G d k l).2 wr) (fun i _=>A-(RowKit.intOf i).toNat)
  case atStart=>exact ⟨0,Nat.zero_le _,rfl,Wd.nil HG.out⟩
  case round=>
   obtain ⟨k,hk,rfl,hW⟩:=hrel
   have HW:=hide hW
   clear hW
   by_cases hlt:k<A
   ·obtain ⟨B,rfl,hkc⟩:=HK.out o_
    obtain ⟨vi,hn,hci⟩:=hkc k hlt
    have d0:=hci wr HW.out.wq
    have hj:=joinF_at F hlt
    obtain ⟨b1,b2,b3⟩:=HAb.out k hk
    have HCk:Hid (Calls Tryz.prog 92 #[.pointer (some ⟨C.P,0,none⟩),vi,.int .i64 (d+k)] wr fun x w'=>(∃u,x = .returned u)/\Wd C w its (argsC G d (k+1) l).1 (argsC G d (k+1) l).2 w'):=by
     refine (HX.out k hlt vi wr (its++(argsC G d k l).1) (argsC G d k l).2 (d+k) hn HW.out.gs o_ o_ o_ o_ (by simp only [l_a];omega)).mono ?_
     rintro x w' ⟨hu,hw'⟩
     exact ⟨hu,HW.out.trans hw'⟩
    have hwk:IntKind.i64.wrap (d+(k:Int))=d+(k:Int):=by simp [IntKind.wrap,IntKind.bits,IntKind.signed];omega
    clear hkc hci hn HW b1 b2 b3
    go_wp2_with fail
    refine HCk.out.mono ?_
    rintro x w2 ⟨⟨u,rfl⟩,hw2⟩
    have HR:=hide hw2
    clear hw2 HCk d0
    go_wp2_with fail
    go_roundw
    case rel=>exact ⟨k+1,by omega,by go_num,HR.out⟩
    case measure=>simp [RowKit.intOf];omega
   ·obtain rfl:k=A:=by omega
    obtain ⟨b1,b2,b3⟩:=HAb.out k hk
    have hjj:(joinF F k).length<=(joinF F k).length:=Nat.le_refl _
    generalize argsC G d k l=p at HW HE b1 b2 b3
    obtain ⟨a1,L⟩:=p
    simp only at b1 b2 b3
    have HW1:Hid (Wd C w its a1 L wr):=HW.out
    clear HW HX HAb HK
    go_wp2_with fail
    clear hlt hk
    go_loopw [9] (fun i wr=>∃j:Nat,j<=m/\i = .int .i64 j/\Wd C w its (a1++keepL C.E j) L wr) (fun i _=>m-(RowKit.intOf i).toNat)
    case atStart=>exact ⟨0,Nat.zero_le _,rfl,by rw [show keepL C.E 0 = [] from rfl,List.append_nil];exact HW1.out⟩
    case round=>
     clear HW1
     obtain ⟨j,hj,rfl,hW⟩:=hrel
     have HW:=hide hW
     clear hW
     have hkl:=keepL_len C.E j
     by_cases hlt:j<m
     ·have c1:(j:Int)<d:=by omega
      have c2:(j:Int)<5:=by omega
      go_wp2_with fail
      refine (regG_any (j:Int) 0 wr o_).mono ?_
      rintro x w1 ⟨rfl,hb1⟩
      have HG1:Hid (Gs C w1 (its++(a1++keepL C.E j)) L):=HW.out.gs.below HC.out hb1
      have HW1:Hid (Wd C w its (a1++keepL C.E j) L w1):=HW.out.bel HC.out hb1
      clear hb1
      go_wp2_with fail
      refine (wordC C HC.out w1 _ _ HG1.out (j:Int) o_ o_).mono ?_
      rintro x w2 ⟨rfl,hw2⟩
      rw [hw2]
      clear hw2
      go_wp2_with fail
      refine (putC C HC.out w1 _ _ HG1.out 11 0 2 (regI (j:Int) 0) (wordI C.E (j:Int)) (by simp only [l_a];omega)).mono ?_
      rintro x w3 ⟨⟨u,rfl⟩,hw3⟩
      have HR:Hid (Wd C w its (a1++keepL C.E (j+1)) L w3):=by
       have h:=HW1.out.trans hw3
       rw [List.append_assoc] at h
       exact h
      clear hw3 HG1 HW1 HW
      go_wp2_with fail
      go_roundw
      case rel=>exact ⟨j+1,by omega,by go_num,HR.out⟩
      case measure=>simp [RowKit.intOf];omega
     ·obtain rfl:j=m:=by omega
      have HW1:Hid (Wd C w its (a1++keepL C.E j) L wr):=HW.out
      first | (have q_:d<=5:=hv;have c1 : ¬((j:Int)<d):=o_;clear q_) | (have c1:(j:Int)<d:=o_;have c2 : ¬((j:Int)<5):=o_)
      clear HW
      go_wp2_with fail
      first | clear hlt hj c1 c2 | clear hlt hj c1
      go_loopw [10] (fun i wr=>∃i_:Nat,i_<=k/\i = .int .i64 i_/\Wd C w its (a1++keepL C.E j++passL C.E d i_) L wr) (fun i _=>k-(RowKit.intOf i).toNat)
      case atStart=>exact ⟨0,Nat.zero_le _,rfl,by rw [show passL C.E d 0 = [] from rfl,List.append_nil];exact HW1.out⟩
      case round=>
       clear HW1
       obtain ⟨i_,hi_,rfl,hW⟩:=hrel
       have HW:=hide hW
       clear hW
       have hpl:=passL_len C.E d i_
       by_cases hlt:i_<k
       ·have hw1:IntKind.i64.wrap (d+(i_:Int))=d+(i_:Int):=by simp [IntKind.wrap,IntKind.bits,IntKind.signed];omega
        have hw2:IntKind.i64.wrap (10+(i_:Int))=10+(i_:Int):=by simp [IntKind.wrap,IntKind.bits,IntKind.signed];omega
        by_cases h5:d+(i_:Int)<5
        ·go_wp2_with fail
         refine (regG_any (d+(i_:Int)) 0 wr o_).mono ?_
         rintro x w1 ⟨rfl,hb1⟩
         have HG1:=hide (HW.out.gs.below HC.out hb1)
         have HW1:=hide (HW.out.bel HC.out hb1)
         clear hb1
         go_wp2_with fail
         refine (putC C HC.out w1 _ _ HG1.out 12 (10+(i_:Int)) (regI (d+(i_:Int)) 0) 0 0 (by simp only [l_a];omega)).mono ?_
         rintro x w3 ⟨⟨u,rfl⟩,hw3⟩
         have HR:Hid (Wd C w its (a1++keepL C.E j++passL C.E d (i_+1)) L w3):=by
          have h:=HW1.out.trans hw3
          show Wd _ _ _ _ _ _
          rw [show passL C.E d (i_+1)=passL C.E d i_++[insI 12 (10+(i_:Int)) (regI (d+(i_:Int)) 0) 0 0] by simp only [passL];rw [if_pos o_],<-List.append_assoc]
          exact h
         clear hw3 HG1 HW1 HW
         go_wp2_with fail
         go_roundw
         case rel=>exact ⟨i_+1,by omega,by go_num,HR.out⟩
         case measure=>simp [RowKit.intOf];omega
        ·go_wp2_with fail
         refine (wordC C HC.out wr _ _ HW.out.gs (d+(i_:Int)) o_ o_).mono ?_
         rintro x w2 ⟨rfl,hw2'⟩
         rw [hw2']
         clear hw2'
         go_wp2_with fail
         refine (putC C HC.out wr _ _ HW.out.gs 10 (10+(i_:Int)) 2 0 (wordI C.E (d+(i_:Int))) (by simp only [l_a];omega)).mono ?_
         rintro x w3 ⟨⟨u,rfl⟩,hw3⟩
         have HR:Hid (Wd C w its (a1++keepL C.E j++passL C.E d (i_+1)) L w3):=by
          have h:=HW.out.trans hw3
          show Wd _ _ _ _ _ _
          rw [show passL C.E d (i_+1)=passL C.E d i_++[insI 10 (10+(i_:Int)) 2 0 (wordI C.E (d+(i_:Int)))] by simp only [passL];rw [if_neg o_],<-List.append_assoc]
          exact h
         clear hw3 HW
         go_wp2_with fail
         go_roundw
         case rel=>exact ⟨i_+1,by omega,by go_num,HR.out⟩
         case measure=>simp [RowKit.intOf];omega
       ·obtain rfl:i_=k:=by omega
        obtain ⟨ag,cg,hvg,-⟩:=HC.out.g
        obtain ⟨af,cf,hvf,-⟩:=HC.out.f
        have p0:wr.cell? ⟨C.P,0,none⟩=some C.vg:=HW.out.gs.es.oth 0 (by decide) (by decide)
        have p1:wr.cell? ⟨C.P,1,none⟩=some C.vf:=HW.out.gs.es.oth 1 (by decide) (by decide)
        rw [hvg] at p0
        rw [hvf] at p1
        have HF:Hid (Calls Tryz.prog 17 #[.agg #[.slice ag C.gs.length cg,.slice af C.fs.length cf],.string s] wr fun e w'=>e = .returned (.int .i64 (C.E.fn s))/\Bl wr w'):=by
         have:=l3func_any C.fs C.vg C.vf s wr (by have:=HC.out.fl;omega) (HC.out.f.below HW.out.gs.bel)
         rw [hvg,hvf] at this
         exact this
        clear hvg hvf
        have HW1:=hide (HW.out)
        clear HW
        generalize hfs:C.E.fn s=fz at HF HE
        go_wp2_with fail
        refine HF.out.mono ?_
        rintro x w1 ⟨rfl,hb1⟩
        have HG1:=hide (HW1.out.gs.below HC.out hb1)
        have HW2:=hide (HW1.out.bel HC.out hb1)
        clear hb1 HW1 HF p0 p1
        go_wp2_with fail
        refine (markC C HC.out w1 _ _ HG1.out 5 fz (by simp only [l_a];omega)).mono ?_
        rintro x w2 ⟨⟨u,rfl⟩,hw2⟩
        have HW3:=hide (HW2.out.trans hw2)
        clear hw2 HW2 HG1
        go_wp2_with fail
        clear hlt hi_
        go_loopw [11] (fun i wr=>∃r:Nat,r<=j/\i = .int .i64 r/\Wd C w its (a1++keepL C.E j++passL C.E d i_++[markI 5 fz]++backL C.E r) L wr) (fun i _=>j-(RowKit.intOf i).toNat)
        case atStart=>exact ⟨0,Nat.zero_le _,rfl,by rw [show backL C.E 0 = [] from rfl,List.append_nil];exact HW3.out⟩
        case round=>
         clear HW3
         obtain ⟨r,hr,rfl,hW⟩:=hrel
         have HW:=hide hW
         clear hW
         have hbl:=backL_len C.E r
         by_cases hlt:r<j
         ·have c1:(r:Int)<d:=by omega
          have c2:(r:Int)<5:=by omega
          go_wp2_with fail
          refine (regG_any (r:Int) 0 wr o_).mono ?_
          rintro x w1 ⟨rfl,hb1⟩
          have HG1:=hide (HW.out.gs.below HC.out hb1)
          have HW1:=hide (HW.out.bel HC.out hb1)
          clear hb1
          go_wp2_with fail
          refine (wordC C HC.out w1 _ _ HG1.out (r:Int) o_ o_).mono ?_
          rintro x w2 ⟨rfl,hw2⟩
          rw [hw2]
          clear hw2
          go_wp2_with fail
          refine (putC C HC.out w1 _ _ HG1.out 10 (regI (r:Int) 0) 2 0 (wordI C.E (r:Int)) (by simp only [l_a,l_c,l_n];omega)).mono ?_
          rintro x w3 ⟨⟨u,rfl⟩,hw3⟩
          have HR:Hid (Wd C w its (a1++keepL C.E j++passL C.E d i_++[markI 5 fz]++backL C.E (r+1)) L w3):=by
           have h:=HW1.out.trans hw3
           rw [List.append_assoc] at h
           exact h
          clear hw3 HG1 HW1 HW
          go_wp2_with fail
          go_roundw
          case rel=>exact ⟨r+1,by omega,by go_num,HR.out⟩
          case measure=>simp [RowKit.intOf];omega
         ·obtain rfl:r=j:=by omega
          first | (have q_:d<=5:=hv;have c1 : ¬((r:Int)<d):=o_;clear q_) | (have c1:(r:Int)<d:=o_;have c2 : ¬((r:Int)<5):=o_)
          have HW1:=hide (HW.out)
          clear HW
          go_wp2_with fail
          refine (answerC C HC.out wr _ _ HW1.out.gs d (by simp only [l_a,l_c,l_n];omega) o_ o_).mono ?_
          rintro x w3 ⟨⟨u,rfl⟩,hw3⟩
          have HR:=hide (HW1.out.trans hw3)
          clear hw3 HW1
          go_wp2_with fail
          exact bodyPost_end (v:=.tuple #[]) (by simp [results,Tryz.results121,go_sem]) rfl ⟨⟨_,rfl⟩,by rw [HE.out];exact HR.out⟩
end Go.Proofs.YtnpidjamplmgjaaGreatDoor
