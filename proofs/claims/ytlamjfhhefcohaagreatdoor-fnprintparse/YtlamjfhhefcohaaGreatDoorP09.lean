import Derived.Test.YtlamjfhhefcohaaGreatDoorP08
namespace Go.Proofs.YtlamjfhhefcohaaGreatDoor
open Go.Proofs.Tryz
open Go.RowKit
set_option linter.all false
set_option maxRecDepth 100000
set_option maxHeartbeats 16000000
theorem BW(s:ByteArray)(ve vf:Value)(es fs:List Nd)(t l:Int)(w:World)(Ji:es.length<=2000)(Jh:fs.length<=2000)(he:ax w ve es)(hf:ax w vf fs):
  Calls prog 74 #[.agg #[.int .i64 8,.string s,ve,vf,.int .i64 t,.int .i64 l]] w fun e w'=>e=.returned (.bool (aG ⟨8,s,es,fs,t,l⟩))/\Below w.heap.size w w':=by
 obtain⟨HE,HF⟩:=h2 he hf;obtain⟨ae,ce,rfl,-,-,-⟩:=he;obtain⟨af,cf,rfl,-,-,-⟩:=hf;have HD:Hid (∀b:Bool,(decide (es.length<=2000)&&b)=b):=fun b=>by simp[Ji]
 have Jk:Hid (∀b:Bool,(decide (fs.length<=2000)&&b)=b):=fun b=>by simp[Jh]
 go_enter func74,ntmps74;go_wp2_with(go_at_call 38;refine(fg _ _ _ _).mono ?_;rintro e w' ⟨rfl,rfl⟩);refine(eE _ es _ o_ (HE.out.below (aD _ _))).mono ?_;rintro e w1 ⟨rfl,Jc⟩;rw[HD.out];simp only[World.size_alloc]at Jc;have Ja:=aL Jc;obtain⟨x0,x1,x2,x3,x4,x5⟩:=ld Jc;cases ho:bW es
 ·go_wp2;go_ret;exact⟨aj (by simp only[aG,stmtB];simp[ho]),Ja⟩
 cases hn:aK s
 case true=>
  go_wp2_with(go_at_call 37;refine(aH _ _).mono ?_;rintro e w' ⟨rfl,rfl⟩;rw[hn]);go_ret;exact⟨aj (by simp only[aG,stmtB];simp[ho,fS hn,-List.beq_nil_eq]),Ja⟩
 cases hs:(s.toList == [])
 ·have Je:(s.toList != [])=true:=by rw[bne,hs];rfl
  go_wp2_with(go_at_call 37;refine(aH _ _).mono ?_;rintro e w' ⟨rfl,rfl⟩;rw[hn]);go_ret;exact⟨aj (by simp only[aG,stmtB];simp[ho,hs,-List.beq_nil_eq]),Ja⟩
 have Je:(s.toList != [])=false:=by rw[bne,hs];rfl
 by_cases hf0:0<fs.length
 ·go_wp2_with(go_at_call 37;refine(aH _ _).mono ?_;rintro e w' ⟨rfl,rfl⟩;rw[hn])
  go_ret;refine⟨aj ?_,Ja⟩;have:(fs.length == 0)=false:=by simp only[beq_eq_false_iff_ne];omega
  simp only[aG,stmtB,this];simp[ho,hs,-List.beq_nil_eq]
 have Jb:Hid ((fs.length == 0)=true):=by show _=_;simp only[beq_iff_eq];omega
 by_cases ht:t<0
 ·go_wp2_with(go_at_call 37;refine(aH _ _).mono ?_;rintro e w' ⟨rfl,rfl⟩;rw[hn])
  all_goals go_ret
  all_goals refine⟨aj ?_,Ja⟩
  all_goals (simp only[aG,stmtB,Jb.out];simp[ho,hs,-List.beq_nil_eq] <;> omega)
 by_cases hl:l<0
 ·go_wp2_with(go_at_call 37;refine(aH _ _).mono ?_;rintro e w' ⟨rfl,rfl⟩;rw[hn])
  all_goals go_ret
  all_goals refine⟨aj ?_,Ja⟩
  all_goals (simp only[aG,stmtB,Jb.out];simp[ho,hs,-List.beq_nil_eq] <;> omega)
 by_cases ht2:0<t
 ·go_wp2_with(go_at_call 37;refine(aH _ _).mono ?_;rintro e w' ⟨rfl,rfl⟩;rw[hn])
  all_goals go_ret
  all_goals refine⟨aj ?_,Ja⟩
  all_goals (simp only[aG,stmtB,Jb.out];simp[ho,hs,-List.beq_nil_eq] <;> omega)
 by_cases hl2:0<l
 ·go_wp2_with(go_at_call 37;refine(aH _ _).mono ?_;rintro e w' ⟨rfl,rfl⟩;rw[hn])
  all_goals go_ret
  all_goals refine⟨aj ?_,Ja⟩
  all_goals (simp only[aG,stmtB,Jb.out];simp[ho,hs,-List.beq_nil_eq] <;> omega)
 have Jd:=oH ho;have HL:Hid (eQ es=(es[es.length-1]'(by omega)).kind):=by
  show eQ es=_;simp only[eQ];rw[List.getElem?_eq_getElem o_]
 go_wp2_with(go_at_call 37;refine(aH _ _).mono ?_;rintro e w' ⟨rfl,rfl⟩;rw[hn]);refine(gy _ es _ Jd o_ (HE.out.below Ja)).mono ?_;rintro e w2 ⟨rfl,Jf⟩;have Jg:=Ja.trans (Jf.mono Ja.size);generalize es[es.length-1]=n at HL⊢;have Jj:=v_ n.kind n.val n.name;have HH:Hid (0<=t/\t<=0/\0<=l/\l<=0):=⟨o_,o_,o_,o_⟩;go_wp2;go_ret;refine⟨aj ?_,Jg⟩;have hh:=HH.out;have e1:t=0:=o_;have e2:l=0:=o_;simp only[aG,stmtB,Jb.out];simp[ho,hs,-List.beq_nil_eq,HL.out,e1,e2]
section
variable{w w':World}{b off cap:Nat}{ss:List St}{a:Option Addr}
def ja(w:World)(b off:Nat)(ss:List St):Prop:=∀j (h:j<ss.length),∃ve vf,
 (w.cell? ⟨b,off+j*6,none⟩=some (.int .i64 ss[j].kind)/\w.cell? ⟨b,off+j*6+1,none⟩=some (.string ss[j].name)/\w.cell? ⟨b,off+j*6+2,none⟩=some ve/\w.cell? ⟨b,off+j*6+3,none⟩=some vf/\w.cell? ⟨b,off+j*6+4,none⟩=some (.int .i64 ss[j].thn)/\w.cell? ⟨b,off+j*6+5,none⟩=some (.int .i64 ss[j].els))/\ax w ve ss[j].e/\ax w vf ss[j].f
theorem ja.below(h:ja w b off ss)(hb:Below w.heap.size w w'):ja w' b off ss:=by
 intro j hj;obtain⟨ve,vf,⟨c0,c1,c2,c3,c4,c5⟩,he,hf⟩:=h j hj;have Ja:=b_ c0;exact⟨ve,vf,⟨(hb.cell (p:=⟨b,off+j*6,none⟩) Ja).trans c0,(hb.cell (p:=⟨b,off+j*6+1,none⟩) Ja).trans c1,(hb.cell (p:=⟨b,off+j*6+2,none⟩) Ja).trans c2,(hb.cell (p:=⟨b,off+j*6+3,none⟩) Ja).trans c3,(hb.cell (p:=⟨b,off+j*6+4,none⟩) Ja).trans c4,(hb.cell (p:=⟨b,off+j*6+5,none⟩) Ja).trans c5⟩,he.below hb,hf.below hb⟩
def bJ(w:World)(v:Value)(ss:List St):Prop:=∃a cap,v=.slice a ss.length cap/\ss.length<=cap/\cap<=9223372036854775807/\(0<ss.length->∃b off,a=some ⟨b,off,none⟩/\ja w b off ss)
theorem bJ.below{v:Value}(h:bJ w v ss)(hb:Below w.heap.size w w'):bJ w' v ss:=by
 obtain⟨a,Jb,rfl,hl,hm,h⟩:=h;refine⟨a,Jb,rfl,hl,hm,fun h0=>?_⟩;obtain⟨b,Ja,rfl,hc⟩:=h h0;exact⟨b,Ja,rfl,hc.below hb⟩
theorem ja.up(h:ja w b off ss)(j:Nat)(hj:j<ss.length):∃ve vf,((∀o,(w.alloc o).cell? ⟨b,off+j*6,none⟩=some (.int .i64 ss[j].kind))/\(∀o,(w.alloc o).cell? ⟨b,off+j*6+1,none⟩=some (.string ss[j].name))/\(∀o,(w.alloc o).cell? ⟨b,off+j*6+2,none⟩=some ve)/\(∀o,(w.alloc o).cell? ⟨b,off+j*6+3,none⟩=some vf)/\(∀o,(w.alloc o).cell? ⟨b,off+j*6+4,none⟩=some (.int .i64 ss[j].thn))/\(∀o,(w.alloc o).cell? ⟨b,off+j*6+5,none⟩=some (.int .i64 ss[j].els))) /\
  (w.cell? ⟨b,off+j*6,none⟩=some (.int .i64 ss[j].kind)/\w.cell? ⟨b,off+j*6+1,none⟩=some (.string ss[j].name)/\w.cell? ⟨b,off+j*6+2,none⟩=some ve/\w.cell? ⟨b,off+j*6+3,none⟩=some vf/\w.cell? ⟨b,off+j*6+4,none⟩=some (.int .i64 ss[j].thn)/\w.cell? ⟨b,off+j*6+5,none⟩=some (.int .i64 ss[j].els))/\ax w ve ss[j].e/\ax w vf ss[j].f:=by
 obtain⟨ve,vf,⟨c0,c1,c2,c3,c4,c5⟩,he,hf⟩:=h j hj;have Ja:=b_ c0;have hb:∀o,Bl w (w.alloc o):=fun o=>r_.alloc n_ o;exact⟨ve,vf,⟨fun o=>((hb o).cell (p:=⟨b,off+j*6,none⟩) Ja).trans c0,fun o=>((hb o).cell (p:=⟨b,off+j*6+1,none⟩) Ja).trans c1,fun o=>((hb o).cell (p:=⟨b,off+j*6+2,none⟩) Ja).trans c2,fun o=>((hb o).cell (p:=⟨b,off+j*6+3,none⟩) Ja).trans c3,fun o=>((hb o).cell (p:=⟨b,off+j*6+4,none⟩) Ja).trans c4,fun o=>((hb o).cell (p:=⟨b,off+j*6+5,none⟩) Ja).trans c5⟩,⟨c0,c1,c2,c3,c4,c5⟩,he,hf⟩
theorem bJ.cut(h:bJ w (.slice a ss.length cap) ss)(lo hi:Nat)(h1:lo<=hi)(h2:hi<=ss.length):
  bJ w (.slice (if cap=lo then a else a.map (·.add (lo*6))) (hi-lo) (cap-lo)) ((ss.take hi).drop lo):=by
 obtain⟨a',Jc,he,hl,hm,h⟩:=h;simp only[Value.slice.injEq,true_and]at he;obtain⟨rfl,rfl⟩:=he;refine⟨if cap=lo then a else a.map (·.add (lo*6)),cap-lo,by simp[Nat.min_eq_left h2],by simp[Nat.min_eq_left h2];omega,o_,fun h0=>?_⟩;simp only[List.length_drop,List.length_take,Nat.min_eq_left h2]at h0;obtain⟨b,Ja,rfl,hc⟩:=h o_;refine⟨b,Ja+lo*6,?_,fun j hj=>?_⟩
 ·rw[if_neg o_];simp[Addr.add]
 ·simp only[List.length_drop,List.length_take,Nat.min_eq_left h2]at hj;obtain⟨ve,vf,Jb,he,hf⟩:=hc (lo+j) o_;have e:((ss.take hi).drop lo)[j]'(by simp;omega)=ss[lo+j]'(by omega):=i_
  rw[e];refine⟨ve,vf,?_,he,hf⟩;have e1:Ja+lo*6+j*6=Ja+(lo+j)*6:=o_;rw[e1];exact Jb
theorem bJ.head(h:bJ w (.slice a ss.length cap) ss)(hi:Nat)(h2:hi<=ss.length):bJ w (.slice a hi cap) (ss.take hi):=by
 have:=h.cut 0 hi y_ h2
 have e:(if cap=0 then a else a.map (·.add (0*6)))=a:=by
  split
  ·rfl
  ·cases a <;> simp[Addr.add]
 rw[e]at this;simpa using this
theorem ni(a:Option Addr)(n cap lo hi:Nat)(h1:lo<=hi)(h2:hi<=n)(h3:n<=cap):∀w:World,(Instr.slice 41 (.slice a n cap) (some (.int .i64 lo)) (some (.int .i64 ((lo:Int)+((hi-lo:Nat):Int)))) none).run prog w=.ok (.slice (if cap=lo then a else a.map (·.add (lo*6))) (hi-lo) (cap-lo)) w:=by
 intro w;have hz:prog.elem 41=46:=k_;have hs:(sizeOf 46).run prog w=.ok 6 w:=k_;rw[run_slice_lh w 41 a n cap (by rw[hz];exact underlying41) .i64 .i64 _ _ o_ o_ o_,hz,hs];simp only[Result.andThen,sliced,Int.toNat_natCast];have e:(((lo:Int)+((hi-lo:Nat):Int))).toNat=hi:=o_;rw[e]
theorem mt(a:Option Addr)(n cap lo:Nat)(h2:lo<=n)(h3:n<=cap)(l':Int)(Ja:l'=lo):∀w:World,(Instr.slice 41 (.slice a n cap) (some (.int .i64 l')) none none).run prog w=.ok (.slice (if cap=lo then a else a.map (·.add (lo*6))) (n-lo) (cap-lo)) w:=by
 intro w;subst Ja;have hz:prog.elem 41=46:=k_;have hs:(sizeOf 46).run prog w=.ok 6 w:=k_;rw[run_slice_l w 41 a n cap (by rw[hz];exact underlying41) .i64 _ o_ o_,hz,hs];simp only[Result.andThen,sliced,Int.toNat_natCast]
def lenOf:Value->Nat|.slice _ n _=>n|_=>0
theorem zu(n:Nat):∀(v:Value) (ss:List St) (w:World) (hn:ss.length<=n) (hl:ss.length<=1048576) (hc:bJ w v ss),
  Calls prog 79 #[v] w fun e w'=>e=.returned (.bool (dx ss))/\Below w.heap.size w w':=by
 induction n with
 | zero=>
  intro v ss w hn hl hc;have:ss=[]:=List.eq_nil_of_length_eq_zero o_;subst this;obtain⟨a,Jc,rfl,Jl,Jk,hc⟩:=hc;simp only[l_n]at*;clear hc;go_enter func79,ntmps79;go_wp2_with fail;refine wp_loop_rounds 1 ?_;rw[rounds_succ];go_wp2;go_ret;exact⟨rfl,r_⟩
 | succ n ih=>
 intro v ss w hn hl hc;obtain⟨IH,HN⟩:=h2 ih hc;obtain⟨a,Jc,rfl,Jl,Jk,hc⟩:=hc;clear hc ih;go_enter func79,ntmps79;go_wp2;go_loopw[0] (fun v wr=>∃ts,ts.length<=ss.length/\bJ wr v ts/\dx ss=dx ts/\Bl w wr) (fun v _=>lenOf v)
 case atStart=>exact⟨ss,n_,HN,rfl,r_⟩
 case round=>
  obtain⟨ts,Xa,Jy,Jd,hB⟩:=hrel;obtain⟨a,Jc,rfl,Jl,Jk,hc⟩:=Jy;have HF:=ah Jd;clear Jd;cases ts with
  | nil=>
   simp only[l_n];go_wp2;go_ret;exact⟨aj HF.out.symm,hB⟩
  | cons s r=>
   obtain⟨b,off,rfl,hs⟩:=hc i_;obtain⟨ve,vf,⟨g0,g1,g2,g3,g4,g5⟩,⟨c0,c1,c2,c3,c4,c5⟩,he,hf⟩:=hs.up 0 i_;simp only[Nat.zero_mul,Nat.add_zero,List.getElem_cons_zero]at c0 c1 c2 c3 c4 c5 g0 g1 g2 g3 g4 g5;have Je:bJ wr (.slice (some ⟨b,off,none⟩) (s::r).length Jc) (s::r):=⟨_,_,rfl,Jl,Jk,fun _=>⟨b,off,rfl,hs⟩⟩;have Ja:bJ wr (.slice (if Jc=1 then some ⟨b,off,none⟩else some ⟨b,off+6,none⟩) r.length (Jc-1)) r:=by
    have:=Je.cut 1 (s::r).length i_ n_
    simpa[Addr.add]using this
   simp only[l_c]at*;have HR:=ah Ja;have h1:(1:Int)<=(r.length:Int)+1:=o_;have HC:Hid (dx ss=(decide (0<=s.thn/\s.thn<=r.length/\0<=s.els/\s.els<=r.length-s.thn)&&(dx (r.take s.thn.toNat)&&(dx ((r.take (s.thn.toNat+s.els.toNat)).drop s.thn.toNat)&&dx (r.drop (s.thn.toNat+s.els.toNat)))))):=by
    show _=_;rw[HF.out,iD]
   obtain⟨a2,k2,rfl,-,-,-⟩:=he;obtain⟨a3,k3,rfl,-,-,-⟩:=hf;clear hs hc Je Ja HF;generalize s.kind=kI at c0 g0;generalize s.name=nI at c1 g1;generalize s.thn=tI at c4 g4 HC;generalize s.els=lI at c5 g5 HC;generalize (s::r)[0].e.length=n2 at c2 g2;generalize (s::r)[0].f.length=n3 at c3 g3;go_wp2_with fail;go_region;generalize (if Jc=1 then some ({block:=b,off:=off,spot:=none}:Addr)else some {block:=b,off:=off+6,spot:=none})=a1 at HR⊢;generalize hk1:Jc-1=k1 at HR⊢;have Ju:r.length<=k1:=o_;have Jw:k1<=9223372036854775807:=o_;clear hk1 c0 c1 c2 c3 c4 c5 g0 g1 g2 g3 g4 g5 h1;have Jf:Bl w (wr.alloc (.cells #[.int .i64 kI,.string nI,.slice a2 n2 k2,.slice a3 n3 k3,.int .i64 tI,.int .i64 lI] 46)).drew:=(hB.alloc hB.size _).drew;by_cases q1:tI<0
   ·go_wp2;go_ret;exact⟨aj (by rw[HC.out,decide_eq_false o_];rfl),Jf⟩
   by_cases q2:(r.length:Int)<tI
   ·go_wp2;go_ret;exact⟨aj (by rw[HC.out,decide_eq_false o_];rfl),Jf⟩
   by_cases q3:lI<0
   ·go_wp2;go_ret;exact⟨aj (by rw[HC.out,decide_eq_false o_];rfl),Jf⟩
   by_cases q4:(r.length:Int)-tI<lI
   ·go_wp2;go_ret;exact⟨aj (by rw[HC.out,decide_eq_false o_];rfl),Jf⟩
   obtain⟨tn,rfl⟩:=Int.eq_ofNat_of_zero_le (show 0<=tI by omega);obtain⟨ln,rfl⟩:=Int.eq_ofNat_of_zero_le (show 0<=lI by omega);have J_:tn<=r.length:=o_;have Js:tn+ln<=r.length:=o_;have Jh:Hid (dx ss=(dx (r.take tn)&&(dx ((r.take (tn+ln)).drop tn)&&dx (r.drop (tn+ln))))):=by
    show _=_;rw[HC.out,decide_eq_true o_];simp
   clear HC;go_wp2_with fail;have Jo:Bl wr (wr.alloc (.cells #[.int .i64 kI,.string nI,.slice a2 n2 k2,.slice a3 n3 k3,.int .i64 tn,.int .i64 ln] 46)).drew:=(aD _ _).drew;refine(IH.out _ (r.take tn) _ (by simp;omega) (by simp;omega) ((HR.out.below Jo).head tn o_)).mono ?_;rintro e w1 ⟨rfl,Jp⟩;have Jb:Below (wr.heap.size+1) (wr.alloc (.cells #[.int .i64 kI,.string nI,.slice a2 n2 k2,.slice a3 n3 k3,.int .i64 tn,.int .i64 ln] 46)) w1:=(r_.drew).trans (Jp.mono i_);have Ji:=hB.trans ((aL Jb).mono hB.size);obtain⟨x0,x1,x2,x3,x4,x5⟩:=ld Jb;clear Jo Jp Jf;cases hf1:dx (r.take tn)
   ·go_wp2;go_ret;exact⟨aj (by rw[Jh.out,hf1];rfl),Ji⟩
   obtain⟨a5,k5,Jt,Jq⟩:∃a5 k5,(∀w:World,(Instr.slice 41 (.slice a1 r.length k1) (some (.int .i64 tn)) (some (.int .i64 ((tn:Int)+(ln:Int)))) none).run prog w=.ok (.slice a5 ln k5) w)/\bJ wr (.slice a5 ln k5) ((r.take (tn+ln)).drop tn):=by
    have h:=ni a1 r.length k1 tn (tn+ln) o_ o_ o_;have h':=HR.out.cut tn (tn+ln) o_ o_;rw[show tn+ln-tn=ln by omega]at h h';exact⟨_,_,h,h'⟩
   have Jv:=ah Jq;clear Jq;go_wp2_with fail;have Jg:Bl wr w1:=aL Jb;refine(IH.out _ ((r.take (tn+ln)).drop tn) _ (by simp;omega) (by simp;omega) (Jv.out.below Jg)).mono ?_;rintro e w2 ⟨rfl,Jm⟩;have Jr:=Ji.trans (Jm.mono Ji.size);have Jj:=Jg.trans (Jm.mono Jg.size);clear x0 x1 x2 x3 x4 x5 Jt;cases hf2:dx ((r.take (tn+ln)).drop tn)
   ·go_wp2;go_ret;exact⟨aj (by rw[Jh.out,hf1,hf2];rfl),Jr⟩
   obtain⟨a6,k6,Jz,Jn⟩:∃a6 k6,(∀w:World,(Instr.slice 41 (.slice a1 r.length k1) (some (.int .i64 ((tn:Int)+(ln:Int)))) none none).run prog w=.ok (.slice a6 (r.length-(tn+ln)) k6) w)/\bJ wr (.slice a6 (r.length-(tn+ln)) k6) (r.drop (tn+ln)):=by
    have h:=mt a1 r.length k1 (tn+ln) o_ o_ ((tn:Int)+(ln:Int)) o_;have h':=HR.out.cut (tn+ln) r.length o_ o_;rw[List.take_length]at h';exact⟨_,_,h,h'⟩
   have Jx:=ah Jn;clear Jn;go_wp2;go_roundw
   case rel=>exact⟨r.drop (tn+ln),by simp;omega,Jx.out.below Jj,by rw[Jh.out,hf1,hf2];rfl,Jr⟩
   case measure=>simp[lenOf];omega
end
theorem BX(k:Int)(s:ByteArray)(ve vf:Value)(es fs:List Nd)(t l:Int)(w:World)(hk:k<1∨8<k)(he:ax w ve es)(hf:ax w vf fs):
  Calls prog 74 #[.agg #[.int .i64 k,.string s,ve,vf,.int .i64 t,.int .i64 l]] w fun e w'=>e=.returned (.bool (aG ⟨k,s,es,fs,t,l⟩))/\Below w.heap.size w w':=by
 obtain⟨ae,ce,rfl,-,-,-⟩:=he;obtain⟨af,cf,rfl,-,-,-⟩:=hf;have hd:decide (1<=k/\k<=8)=false:=by simp;omega
 have hs:aG ⟨k,s,es,fs,t,l⟩=false:=by
  simp only[aG,stmtB,hd,Bool.false_and]
 rw[hs];have h1:(k == 1)=false:=by simp;omega
 have h2:(k == 2)=false:=by simp;omega
 have h3:(k == 3)=false:=by simp;omega
 have HD:=ah hd;go_enter func74,ntmps74;go_wp2_with(go_at_call 38;refine(fg _ _ _ _).mono ?_;rintro e w' ⟨rfl,rfl⟩;rw[HD.out]);go_ret;exact⟨rfl,r_.alloc n_ _⟩
theorem tG(s:St)(ve vf:Value)(w:World)(Jb:s.e.length<=2000)(Ja:s.f.length<=2000)(he:ax w ve s.e)(hf:ax w vf s.f):
  Calls prog 74 #[.agg #[.int .i64 s.kind,.string s.name,ve,vf,.int .i64 s.thn,.int .i64 s.els]] w fun e w'=>e=.returned (.bool (aG s))/\Below w.heap.size w w':=by
 obtain⟨k,s,es,fs,t,l⟩:=s;by_cases hk:k<1∨8<k
 ·exact BX k s ve vf es fs t l w hk he hf
 have h9:k=1∨k=2∨k=3∨k=4∨k=5∨k=6∨k=7∨k=8:=o_;rcases h9 with rfl|rfl|rfl|rfl|rfl|rfl|rfl|rfl
 ·exact wa 1 (.inl rfl) s ve vf es fs t l w Jb Ja he hf
 ·exact wa 2 (.inr rfl) s ve vf es fs t l w Jb Ja he hf
 ·exact BT s ve vf es fs t l w Jb Ja he hf
 ·exact BU s ve vf es fs t l w Jb Ja he hf
 ·exact BV s ve vf es fs t l w Jb Ja he hf
 ·exact wb 6 (.inl rfl) s ve vf es fs t l w Jb Ja he hf
 ·exact wb 7 (.inr rfl) s ve vf es fs t l w Jb Ja he hf
 ·exact BW s ve vf es fs t l w Jb Ja he hf
structure SV where
 s:St
 ve:Value
 vf:Value
 ke:List Nat
 kf:List Nat
def aY(q:SV):List Value:=[.int .i64 q.s.kind,.string q.s.name,q.ve,q.vf,.int .i64 q.s.thn,.int .i64 q.s.els]
def bz(R:List SV):List Value:=R.flatMap aY
def eH(R:List SV):List Nat:=R.flatMap (fun q=>q.ke++q.kf)
theorem flatS_len(R:List SV):(bz R).length=R.length*6:=by
 induction R with
 | nil=>rfl
 | cons a r ih=>
  have:(bz (a::r)).length=6+(bz r).length:=by simp[bz,aY];omega
  rw[this,ih,l_c];omega
theorem fv(a b:List SV):bz (a++b)=bz a++bz b:=by simp[bz]
theorem j5(a b:List SV):eH (a++b)=eH a++eH b:=by simp[eH]
theorem dH:∀(R:List SV) (j i:Nat) (hj:j<R.length),i<6->(bz R)[j*6+i]? =(aY R[j])[i]?
 | x::l,0,i,_,hi=>by
  have:(aY x).length=6:=rfl
  show(aY x++bz l)[0*6+i]? =_;rw[List.getElem?_append_left o_];simp
 | x::l,j+1,i,hj,hi=>by
  have h7:(aY x).length=6:=rfl;show(aY x++bz l)[(j+1)*6+i]? =_;rw[List.getElem?_append_right o_];have e:(j+1)*6+i-(aY x).length=j*6+i:=o_;rw[e,dH l j i (by simpa using hj) hi];simp
theorem iK(R:List SV)(h:∀q∈R,q.ve.oneCell'=true/\q.vf.oneCell'=true):∀u∈bz R,u.oneCell'=true:=by
 intro u hu;simp only[bz,List.mem_flatMap]at hu;obtain⟨q,hq,hu⟩:=hu;obtain⟨h1,h2⟩:=h q hq;simp only[aY,List.mem_cons,List.not_mem_nil,or_false]at hu;rcases hu with rfl|rfl|rfl|rfl|rfl|rfl
 ·rfl
 ·rfl
 ·exact h1
 ·exact h2
 ·rfl
 ·rfl
theorem gz:(prog.info? 46).map (fun i=>(i.zero,i.size,i.bytes))=some (some (.agg #[.int .i64 0,.string ⟨#[]⟩,.slice none 0 0,.slice none 0 0,.int .i64 0,.int .i64 0]),6,88):=by kernel_rfl
theorem ax.cell1{w:World}{v:Value}{ns:List Nd}(h:ax w v ns):v.oneCell'=true:=by
 obtain⟨a,c,rfl,-⟩:=h;rfl
section
variable{ss:List St}
theorem oX(a:Option Addr)(n cap lo hi:Nat)(h1:lo<=hi)(h2:hi<=n)(h3:n<=cap)(l' h':Int)(Ja:l'=lo)(Jb:h'=hi):∀w:World,(Instr.slice 41 (.slice a n cap) (some (.int .i64 l')) (some (.int .i64 h')) none).run prog w=.ok (.slice (if cap=lo then a else a.map (·.add (lo*6))) (hi-lo) (cap-lo)) w:=by
 intro w;have h:=ni a n cap lo hi h1 h2 h3 w;rw[show((lo:Int)+((hi-lo:Nat):Int))=hi by omega]at h;rw[Ja,Jb];exact h
def ig(ss:List St):Prop:=∀s∈ss,0<=s.thn/\0<=s.els
theorem ig.take(h:ig ss)(n:Nat):ig (ss.take n):=fun s hs=>h s (List.mem_of_mem_take hs)
theorem ig.drop(h:ig ss)(n:Nat):ig (ss.drop n):=fun s hs=>h s (List.mem_of_mem_drop hs)
theorem qx(n:Nat):∀(v:Value) (ss:List St) (w:World) (hn:ss.length<=n) (hl:ss.length<=1048576) (hp:ig ss) (hc:bJ w v ss),
  Calls prog 75 #[v] w fun e w'=>e=.returned (.bool (dx ss))/\Below w.heap.size w w':=by
 induction n with
 | zero=>
  intro v ss w hn hl hp hc;have:ss=[]:=List.eq_nil_of_length_eq_zero o_;subst this;obtain⟨a,Jg,rfl,Jy,Jx,hc⟩:=hc;simp only[l_n]at*;clear hc hp;go_enter func75,ntmps75;go_wp2_with fail;refine wp_loop_rounds 1 ?_;rw[rounds_succ];go_wp2;go_ret;exact⟨rfl,r_⟩
 | succ n ih=>
 intro v ss w hn hl hp hc;obtain⟨IH,HP,HN⟩:=h3 ih hp hc;obtain⟨a,Jg,rfl,Jy,Jx,hc⟩:=hc;have HC:=ah hc;go_enter func75,ntmps75;go_wp2;go_loopw[3] (fun i wr=>∃k:Nat,k<=ss.length/\i=.int .i64 k/\dx ss=dx (ss.drop k)/\Bl w wr) (fun i _=>ss.length-(RowKit.intOf i).toNat)
 case atStart=>exact⟨0,y_,rfl,rfl,r_⟩
 case round=>
  obtain⟨k,hk,rfl,Jd,hB⟩:=hrel;have HF:=ah Jd;clear Jd;by_cases hlt:k<ss.length
  case neg=>
   go_wp2;go_ret;exact⟨aj (by rw[HF.out,List.drop_of_length_le o_];rfl),hB⟩
  case pos=>
   obtain⟨b,Jh,rfl,hs⟩:=HC.out o_;obtain⟨ve,vf,⟨c0,c1,c2,c3,c4,c5⟩,he,hf⟩:=(hs.below hB) k hlt;have Jb:Hid _:=(HF.out.trans (congrArg dx (List.drop_eq_getElem_cons hlt))).trans (iD ss[k] (ss.drop (k+1)));have Je:=HP.out ss[k] (g_ hlt);obtain⟨a2,k2,rfl,-,-,-⟩:=he;obtain⟨a3,k3,rfl,-,-,-⟩:=hf;generalize hr:ss.drop (k+1)=r at Jb;have Jj:r.length+k+1=ss.length:=by rw[<-hr];simp;omega
   generalize ss[k].kind=kI at c0;generalize ss[k].name=nI at c1;generalize ss[k].thn=tI at c4 Jb Je;generalize ss[k].els=lI at c5 Jb Je;generalize ss[k].e.length=n2 at c2;generalize ss[k].f.length=n3 at c3;obtain⟨tn,rfl⟩:=Int.eq_ofNat_of_zero_le Je.1;obtain⟨ln,rfl⟩:=Int.eq_ofNat_of_zero_le Je.2;clear Je;obtain⟨HR,Jc⟩:=h2 hr Jj;have Jk:Bl w (wr.alloc (.cells #[.int .i64 kI,.string nI,.slice a2 n2 k2,.slice a3 n3 k3,.int .i64 tn,.int .i64 ln] 46)):=hB.alloc hB.size _;by_cases q2:(ss.length:Int)-k-1<tn
   ·clear Jj;go_wp2;go_ret;exact⟨aj (by have:=Jc.out;rw[Jb.out,decide_eq_false o_];rfl),Jk⟩
   by_cases q4:(ss.length:Int)-k-1-tn<ln
   ·go_wp2;go_ret;exact⟨aj (by have:=Jc.out;rw[Jb.out,decide_eq_false o_];rfl),Jk⟩
   have Js:k+1+tn+ln<=ss.length:=o_;have Ji:Hid (dx ss=(dx (r.take tn)&&(dx ((r.take (tn+ln)).drop tn)&&dx (r.drop (tn+ln))))):=by
    show _=_;rw[Jb.out,decide_eq_true o_];simp
   have Jq:Hid ((ss.take (k+1+tn)).drop (k+1)=r.take tn):=by
    show _=_;rw[<-HR.out,List.drop_take];congr 1;omega
   have Jv:Hid ((ss.take (k+1+tn+ln)).drop (k+1+tn)=(r.take (tn+ln)).drop tn):=by
    show _=_;rw[<-HR.out,List.drop_take,List.drop_take,List.drop_drop];congr 1;omega
   have Jt:Hid (ss.drop (k+1+tn+ln)=r.drop (tn+ln)):=by
    show _=_;rw[<-HR.out,List.drop_drop];congr 1;omega
   obtain⟨a5,k5,J_,Jl⟩:∃a5 k5,(∀w:World,(Instr.slice 41 (.slice (some ⟨b,Jh,none⟩) ss.length Jg) (some (.int .i64 ((k:Int)+1))) (some (.int .i64 ((k:Int)+1+(tn:Int)))) none).run prog w=.ok (.slice a5 tn k5) w)/\bJ w (.slice a5 tn k5) (r.take tn):=by
    have h:=oX (some ⟨b,Jh,none⟩) ss.length Jg (k+1) (k+1+tn) o_ o_ o_ ((k:Int)+1) ((k:Int)+1+(tn:Int)) o_ o_;have h':=HN.out.cut (k+1) (k+1+tn) o_ o_;rw[show k+1+tn-(k+1)=tn by omega]at h h';rw[Jq.out]at h';exact⟨_,_,h,h'⟩
   have Jw:=ah Jl;clear Jl Jb Jj;go_wp2_with fail;refine(IH.out _ (r.take tn) _ (by have:=Jc.out;simp;omega) (by have:=Jc.out;simp;omega) (by rw[<-HR.out];exact(HP.out.drop _).take _) (Jw.out.below Jk)).mono ?_;rintro e w1 ⟨rfl,Jp⟩;have Ja:Below (wr.heap.size+1) (wr.alloc (.cells #[.int .i64 kI,.string nI,.slice a2 n2 k2,.slice a3 n3 k3,.int .i64 tn,.int .i64 ln] 46)) w1:=Jp.mono i_;have Jm:=hB.trans ((aL Ja).mono hB.size);obtain⟨x0,x1,x2,x3,x4,x5⟩:=ld Ja;cases hf1:dx (r.take tn)
   ·go_wp2;go_ret;exact⟨aj (by rw[Ji.out,hf1];rfl),Jm⟩
   obtain⟨a6,k6,Jz,Jo⟩:∃a6 k6,(∀w:World,(Instr.slice 41 (.slice (some ⟨b,Jh,none⟩) ss.length Jg) (some (.int .i64 ((k:Int)+1+(tn:Int)))) (some (.int .i64 ((k:Int)+1+(tn:Int)+(ln:Int)))) none).run prog w=.ok (.slice a6 ln k6) w)/\bJ w (.slice a6 ln k6) ((r.take (tn+ln)).drop tn):=by
    have h:=oX (some ⟨b,Jh,none⟩) ss.length Jg (k+1+tn) (k+1+tn+ln) o_ o_ o_ ((k:Int)+1+(tn:Int)) ((k:Int)+1+(tn:Int)+(ln:Int)) o_ o_;have h':=HN.out.cut (k+1+tn) (k+1+tn+ln) o_ o_;rw[show k+1+tn+ln-(k+1+tn)=ln by omega]at h h';rw[Jv.out]at h';exact⟨_,_,h,h'⟩
   have Ju:=ah Jo;clear Jo;go_wp2_with fail;refine(IH.out _ ((r.take (tn+ln)).drop tn) _ (by have:=Jc.out;simp;omega) (by have:=Jc.out;simp;omega) (by rw[<-HR.out];exact((HP.out.drop _).take _).drop _) (Ju.out.below Jm)).mono ?_;rintro e w2 ⟨rfl,Jr⟩;have Jf:=Ja.trans (Jr.mono (by have:=Ja.size;simp at this;omega));have Jn:=hB.trans ((aL Jf).mono hB.size);obtain⟨x0,x1,x2,x3,x4,x5⟩:=ld Jf;cases hf2:dx ((r.take (tn+ln)).drop tn)
   ·go_wp2;go_ret;exact⟨aj (by rw[Ji.out,hf1,hf2];rfl),Jn⟩
   go_wp2;go_roundw
   case rel=>exact⟨k+1+tn+ln,o_,by go_num,by rw[Ji.out,hf1,hf2,Jt.out];rfl,Jn⟩
   case measure=>simp[RowKit.intOf];omega
end
section
variable{w w':World}{ps:List ByteArray}
def rU(w:World)(b off:Nat)(ps:List ByteArray):Prop:=∀j (h:j<ps.length),w.cell? ⟨b,off+j,none⟩=some (.string ps[j])
theorem rU.below{b off:Nat}(h:rU w b off ps)(hb:Below w.heap.size w w'):rU w' b off ps:=by
 intro j hj;have c:=h j hj;exact(hb.cell (b_ c)).trans c
def Strs(w:World)(v:Value)(ps:List ByteArray):Prop:=∃a cap,v=.slice a ps.length cap/\ps.length<=cap/\cap<=9223372036854775807/\(0<ps.length->∃b off,a=some ⟨b,off,none⟩/\rU w b off ps)
theorem Strs.below{v:Value}(h:Strs w v ps)(hb:Below w.heap.size w w'):Strs w' v ps:=by
 obtain⟨a,Jb,rfl,hl,hm,h⟩:=h;refine⟨a,Jb,rfl,hl,hm,fun h0=>?_⟩;obtain⟨b,Ja,rfl,hc⟩:=h h0;exact⟨b,Ja,rfl,hc.below hb⟩
theorem tH(f:Fu)(vp vb:Value)(w:World)(hT:dz w)(hf:iZ f)(hp:Strs w vp f.params)(hb:bJ w vb f.body):
  Calls prog 42 #[.agg #[.string f.name,vp,vb]] w fun e w'=>e=.returned (.bool (cq f))/\Below w.heap.size w w':=by
 obtain⟨name,ps,ss⟩:=f;simp only at hp hb⊢;obtain⟨HP,HS,HT,HF⟩:=h4 hp hb hT hf;have Ju:ps.length<=1048576:=HF.out.1;have Jt:ss.length<=1048576:=HF.out.2.1;obtain⟨ap,cp,rfl,-,-,Jp⟩:=hp;obtain⟨ab,cb,rfl,-,-,Jl⟩:=hb;obtain⟨Js,Jq⟩:=h2 Jp Jl;go_enter func42,ntmps42;go_wp2_with fail;refine(iI _ _).mono ?_;rintro e w1 ⟨rfl,Je⟩;simp only[World.size_alloc]at Je;have Jg:=aL Je;obtain⟨x0,x1,x2⟩:=lV Je;cases hn:aK name
 ·go_wp2;go_ret;exact⟨aj (by simp only[cq,hn,Bool.false_and]),Jg⟩
 by_cases h6:6<ps.length
 ·go_wp2;go_ret;exact⟨aj (by simp only[cq,hn,decide_eq_false (show ¬ps.length<=6 by omega),Bool.false_and,Bool.and_false]),Jg⟩
 by_cases h5:500<ss.length
 ·go_wp2;go_ret;exact⟨aj (by simp only[cq,hn,decide_eq_false (show ¬ss.length<=500 by omega),Bool.false_and,Bool.and_false]),Jg⟩
 have Jf:Hid (cq ⟨name,ps,ss⟩=(ps.all aK&&(stmtsB stmtB ss&&dx ss))):=by
  show _=_;simp only[cq,hn,decide_eq_true (show ps.length<=6 by omega),decide_eq_true (show ss.length<=500 by omega),Bool.true_and]
 go_wp2;go_loopw[27] (fun i wr=>∃k:Nat,k<=ps.length/\i=.int .i64 k/\(∀s∈ps.take k,aK s=true)/\Below (w.heap.size+1) (w.alloc (.cells #[.string name,.slice ap ps.length cp,.slice ab ss.length cb] 43)) wr) (fun i _=>ps.length-(RowKit.intOf i).toNat)
 case atStart=>exact⟨0,y_,rfl,i_,Je⟩
 case round=>
  obtain⟨k,hk,rfl,hg,hB⟩:=hrel;have HG:=ah hg;have Ja:=aL hB;by_cases hlt:k<ps.length
  ·obtain⟨b,Jj,rfl,hc⟩:=Js.out o_;have d0:=(hc.below Ja) k hlt;have HE:Hid (ps.take (k+1)=ps.take k++[ps[k]]):=bM ps k hlt;have HX:Hid (aK ps[k]=false->ps.all aK=false):=rF hlt;generalize ps[k]=s at d0 HE HX;go_wp2_with fail;refine(iI _ _).mono ?_;rintro e w2 ⟨rfl,Jc⟩;have Jd:=hB.trans (Jc.mono (by have:=hB.size;simp at this;omega));cases hv:aK s
   ·go_wp2;go_ret;exact⟨aj (by rw[Jf.out,HX.out hv];rfl),aL Jd⟩
   ·go_wp2;go_roundw
    case rel=>
     refine⟨k+1,o_,by go_num,fun m hm=>?_,Jd⟩;rw[HE.out]at hm;rcases List.mem_append.1 hm with hm|hm
     ·exact HG.out m hm
     ·rw[List.mem_singleton.1 hm];exact hv
    case measure=>simp[RowKit.intOf];omega
  ·have HA:Hid (ps.all aK=true):=by
    show _=_;rw[List.all_eq_true];have:=HG.out;rw[List.take_of_length_le o_]at this;exact this
   obtain⟨x0,x1,x2⟩:=lV hB;go_wp2;go_loopw[5,38] (fun q i wr=>∃k:Nat,k<=ss.length/\i=.int .i64 k/\q=.int .i64 (nodeSum (ss.take k):Nat)/\nodeSum (ss.take k)<=2000/\(∀s∈ss.take k,stmtB s=true)/\Below (w.heap.size+1) (w.alloc (.cells #[.string name,.slice ap ps.length cp,.slice ab ss.length cb] 43)) wr) (fun _ i _=>ss.length-(RowKit.intOf i).toNat)
   case atStart=>exact⟨0,y_,rfl,rfl,by simp[nodeSum],i_,hB⟩
   case round=>
    obtain⟨k,hk,rfl,rfl,hq,hg,hB⟩:=hrel;have HG:=ah hg;have Ja:=aL hB;by_cases hlt:k<ss.length
    ·obtain⟨b,Jj,rfl,hc⟩:=Jq.out o_;obtain⟨ve,vf,⟨c0,c1,c2,c3,c4,c5⟩,he,hf⟩:=(hc.below Ja) k hlt;have HE:Hid (ss.take (k+1)=ss.take k++[ss[k]]):=bM ss k hlt;have HX:Hid (stmtB ss[k]=false->stmtsB stmtB ss=false):=kO hlt;have HQ:Hid _:=jq ss k hlt;have HY:Hid (2000<nodeSum (ss.take (k+1))->stmtsB stmtB ss=false):=kN;have Jh:=HF.out.2.2 ss[k] (g_ hlt);generalize ss[k]=s at c0 c1 c2 c3 c4 c5 he hf HE HX HQ Jh;generalize nodeSum (ss.take k)=q at hq HQ;obtain⟨Jr,Jm⟩:=h2 he hf;obtain⟨a2,k2,rfl,-,-,-⟩:=he;obtain⟨a3,k3,rfl,-,-,-⟩:=hf;have Jo:=Jh.1;have Jn:=Jh.2;by_cases hs:2000<q+(s.e.length+s.f.length)
     ·go_wp2;go_ret;exact⟨aj (by rw[Jf.out,HY.out (by rw[HQ.out];omega)];simp),Ja.alloc Ja.size _⟩
     ·have Jb:Bl wr (wr.alloc (.cells #[.int .i64 s.kind,.string s.name,.slice a2 s.e.length k2,.slice a3 s.f.length k3,.int .i64 s.thn,.int .i64 s.els] 46)):=aD _ _;go_wp2_with fail;refine(tz s _ _ _ ((HT.out.below HT.out.size Ja).below (HT.out.below HT.out.size Ja).size Jb) Jo Jn (Jr.out.below Jb) (Jm.out.below Jb)).mono ?_;rintro e w2 ⟨rfl,Jc⟩;have Ji:=Jb.trans (Jc.mono Jb.size);have Jd:=hB.trans (Ji.mono (by have:=hB.size;simp at this;omega));cases hv:stmtB s
      ·go_wp2;go_ret;exact⟨aj (by rw[Jf.out,HX.out hv];simp),aL Jd⟩
      ·go_wp2;go_roundw
       case rel=>
        refine⟨k+1,o_,by go_num,?_,by rw[HQ.out];omega,fun m hm=>?_,Jd⟩
        ·rw[HQ.out];congr 1;omega
        ·rw[HE.out]at hm;rcases List.mem_append.1 hm with hm|hm
         ·exact HG.out m hm
         ·rw[List.mem_singleton.1 hm];exact hv
       case measure=>simp[RowKit.intOf];omega
    ·have Jk:Hid (stmtsB stmtB ss=true):=by
      show _=_;have h1:=HG.out;rw[List.take_of_length_le o_]at h1 hq;exact mh hq h1
     obtain⟨x0,x1,x2⟩:=lV hB;go_wp2_with fail;refine(zu ss.length _ ss _ n_ Jt (HS.out.below Ja)).mono ?_;rintro e w2 ⟨rfl,Jc⟩;go_wp2;go_ret;exact⟨aj (by rw[Jf.out,HA.out,Jk.out];rfl),Ja.trans (Jc.mono Ja.size)⟩
end
theorem tJ(f:Fu)(vp vb:Value)(w:World)(hf:iZ f)(hp:Strs w vp f.params)(hb:bJ w vb f.body):
  Calls prog 39 #[.agg #[.string f.name,vp,vb]] w fun e w'=>e=.returned (.bool (cq f))/\Below w.heap.size w w':=by
 obtain⟨name,ps,ss⟩:=f;simp only at hp hb⊢;obtain⟨HP,HS,HF⟩:=h3 hp hb hf;have Ju:ps.length<=1048576:=HF.out.1;have Jt:ss.length<=1048576:=HF.out.2.1;obtain⟨ap,cp,rfl,-,-,Jp⟩:=hp;obtain⟨ab,cb,rfl,-,-,Jn⟩:=hb;obtain⟨Js,Jq⟩:=h2 Jp Jn;go_enter func39,ntmps39;go_wp2_with fail;refine(aH _ _).mono ?_;rintro e w1 ⟨rfl,rfl⟩;have Jg:Below (w.heap.size+1) (w.alloc (.cells #[.string name,.slice ap ps.length cp,.slice ab ss.length cb] 43)) (w.alloc (.cells #[.string name,.slice ap ps.length cp,.slice ab ss.length cb] 43)):=r_;have Jd:=aL Jg;obtain⟨x0,x1,x2⟩:=lV Jg;cases hn:aK name
 ·go_wp2;go_ret;exact⟨aj (by simp only[cq,hn,Bool.false_and]),Jd⟩
 by_cases h6:6<ps.length
 ·go_wp2;go_ret;exact⟨aj (by simp only[cq,hn,decide_eq_false (show ¬ps.length<=6 by omega),Bool.false_and,Bool.and_false]),Jd⟩
 by_cases h5:500<ss.length
 ·go_wp2;go_ret;exact⟨aj (by simp only[cq,hn,decide_eq_false (show ¬ss.length<=500 by omega),Bool.false_and,Bool.and_false]),Jd⟩
 have Jc:Hid (cq ⟨name,ps,ss⟩=(ps.all aK&&(stmtsB aG ss&&dx ss))):=by
  show _=_;rw[qi];simp only[cq,hn,decide_eq_true (show ps.length<=6 by omega),decide_eq_true (show ss.length<=500 by omega),Bool.true_and]
 go_wp2;go_loopw[3] (fun i wr=>∃k:Nat,k<=ps.length/\i=.int .i64 k/\(∀s∈ps.take k,aK s=true)/\Below (w.heap.size+1) (w.alloc (.cells #[.string name,.slice ap ps.length cp,.slice ab ss.length cb] 43)) wr) (fun i _=>ps.length-(RowKit.intOf i).toNat)
 case atStart=>exact⟨0,y_,rfl,i_,Jg⟩
 case round=>
  obtain⟨k,hk,rfl,hg,hB⟩:=hrel;have HG:=ah hg;have Ja:=aL hB;by_cases hlt:k<ps.length
  ·obtain⟨b,Jj,rfl,hc⟩:=Js.out o_;have d0:=(hc.below Ja) k hlt;have HE:Hid (ps.take (k+1)=ps.take k++[ps[k]]):=bM ps k hlt;have HX:Hid (aK ps[k]=false->ps.all aK=false):=rF hlt;generalize ps[k]=s at d0 HE HX;obtain⟨x0,x1,x2⟩:=lV hB;have Jb:=hB;cases hv:aK s
   ·go_wp2_with(go_at_call 37;refine(aH _ _).mono ?_;rintro e w' ⟨rfl,rfl⟩;rw[hv])
    go_ret;exact⟨aj (by rw[Jc.out,HX.out hv];rfl),aL Jb⟩
   ·go_wp2_with(go_at_call 37;refine(aH _ _).mono ?_;rintro e w' ⟨rfl,rfl⟩;rw[hv])
    go_roundw
    case rel=>
     refine⟨k+1,o_,by go_num,fun m hm=>?_,Jb⟩;rw[HE.out]at hm;rcases List.mem_append.1 hm with hm|hm
     ·exact HG.out m hm
     ·rw[List.mem_singleton.1 hm];exact hv
    case measure=>simp[RowKit.intOf];omega
  ·have HA:Hid (ps.all aK=true):=by
    show _=_;rw[List.all_eq_true];have:=HG.out;rw[List.take_of_length_le o_]at this;exact this
   obtain⟨x0,x1,x2⟩:=lV hB;go_wp2;go_loopw[4,5] (fun q i wr=>∃k:Nat,k<=ss.length/\i=.int .i64 k/\q=.int .i64 (nodeSum (ss.take k):Nat)/\nodeSum (ss.take k)<=2000/\(∀s∈ss.take k,aG s=true)/\Below (w.heap.size+1) (w.alloc (.cells #[.string name,.slice ap ps.length cp,.slice ab ss.length cb] 43)) wr) (fun _ i _=>ss.length-(RowKit.intOf i).toNat)
   case atStart=>exact⟨0,y_,rfl,rfl,by simp[nodeSum],i_,hB⟩
   case round=>
    obtain⟨k,hk,rfl,rfl,hq,hg,hB⟩:=hrel;have HG:=ah hg;have Ja:=aL hB;by_cases hlt:k<ss.length
    ·obtain⟨b,Jj,rfl,hc⟩:=Jq.out o_;obtain⟨ve,vf,⟨c0,c1,c2,c3,c4,c5⟩,he,hf⟩:=(hc.below Ja) k hlt;have HE:Hid (ss.take (k+1)=ss.take k++[ss[k]]):=bM ss k hlt;have HX:Hid (aG ss[k]=false->stmtsB aG ss=false):=kO hlt;have HQ:Hid _:=jq ss k hlt;have HY:Hid (2000<nodeSum (ss.take (k+1))->stmtsB aG ss=false):=kN;have Jh:=HF.out.2.2 ss[k] (g_ hlt);generalize ss[k]=s at c0 c1 c2 c3 c4 c5 he hf HE HX HQ Jh;generalize nodeSum (ss.take k)=q at hq HQ;obtain⟨Jr,Jo⟩:=h2 he hf;obtain⟨a2,k2,rfl,-,-,-⟩:=he;obtain⟨a3,k3,rfl,-,-,-⟩:=hf;have Jw:=Jh.1;have Jv:=Jh.2;obtain⟨x0,x1,x2⟩:=lV hB;go_wp2_with fail;go_quiet (fail)
     have Je:Below (w.heap.size+1) (w.alloc (.cells #[.string name,.slice ap ps.length cp,.slice (some ⟨b,Jj,none⟩) ss.length cb] 43)) (wr.drewN nq):=below_drewN hB nq;have Jf:=aL Je;have Jk:Bl wr (wr.drewN nq):=below_drewN r_ nq;by_cases hs:2000<q+s.e.length+s.f.length
     ·go_wp2;go_ret;exact⟨aj (by rw[Jc.out,HY.out (by rw[HQ.out];omega)];simp),Jf⟩
     ·go_wp2_with fail;refine(tG s _ _ _ o_ o_ (Jr.out.below Jk) (Jo.out.below Jk)).mono ?_;rintro e w2 ⟨rfl,Ji⟩;have Jb:=Je.trans (Ji.mono (by have:=Je.size;simp at this;simp;omega));cases hv:aG s
      ·go_wp2;go_ret;exact⟨aj (by rw[Jc.out,HX.out hv];simp),aL Jb⟩
      ·go_wp2;go_roundw
       case rel=>
        refine⟨k+1,o_,by go_num,?_,by rw[HQ.out];omega,fun m hm=>?_,Jb⟩
        ·rw[HQ.out];congr 1
        ·rw[HE.out]at hm;rcases List.mem_append.1 hm with hm|hm
         ·exact HG.out m hm
         ·rw[List.mem_singleton.1 hm];exact hv
       case measure=>simp[RowKit.intOf];omega
    ·have Jl:Hid (stmtsB aG ss=true):=by
      show _=_;have h1:=HG.out;rw[List.take_of_length_le o_]at h1 hq;exact mh hq h1
     have Jm:Hid (ig ss):=by
      have h1:=HG.out;rw[List.take_of_length_le o_]at h1;exact lU h1
     obtain⟨x0,x1,x2⟩:=lV hB;go_wp2_with fail;refine(qx ss.length _ ss _ n_ Jt Jm.out (HS.out.below Ja)).mono ?_;rintro e w2 ⟨rfl,Ji⟩;go_wp2;go_ret;exact⟨aj (by rw[Jc.out,HA.out,Jl.out];rfl),Ja.trans (Ji.mono Ja.size)⟩
section
variable{w w':World}{b off:Nat}{gs:List Gl}{v:Value}{fs:List Fu}
def nj(w:World)(b off:Nat)(gs:List Gl):Prop:=∀j (h:j<gs.length),w.cell? ⟨b,off+j*2,none⟩=some (.string gs[j].name)/\w.cell? ⟨b,off+j*2+1,none⟩=some (.int .i64 gs[j].size)
theorem nj.below(h:nj w b off gs)(hb:Below w.heap.size w w'):nj w' b off gs:=by
 intro j hj;obtain⟨c0,c1⟩:=h j hj;have Ja:=b_ c0;exact⟨(hb.cell (p:=⟨b,off+j*2,none⟩) Ja).trans c0,(hb.cell (p:=⟨b,off+j*2+1,none⟩) Ja).trans c1⟩
def dL(w:World)(v:Value)(gs:List Gl):Prop:=∃a cap,v=.slice a gs.length cap/\gs.length<=cap/\cap<=9223372036854775807/\(0<gs.length->∃b off,a=some ⟨b,off,none⟩/\nj w b off gs)
theorem dL.below(h:dL w v gs)(hb:Below w.heap.size w w'):dL w' v gs:=by
 obtain⟨a,Jb,rfl,hl,hm,h⟩:=h;refine⟨a,Jb,rfl,hl,hm,fun h0=>?_⟩;obtain⟨b,Ja,rfl,hc⟩:=h h0;exact⟨b,Ja,rfl,hc.below hb⟩
def jN(w:World)(b off:Nat)(fs:List Fu):Prop:=∀j (h:j<fs.length),∃vp vb,(w.cell? ⟨b,off+j*3,none⟩=some (.string fs[j].name)/\w.cell? ⟨b,off+j*3+1,none⟩=some vp/\w.cell? ⟨b,off+j*3+2,none⟩=some vb)/\Strs w vp fs[j].params/\bJ w vb fs[j].body
theorem jN.below(h:jN w b off fs)(hb:Below w.heap.size w w'):jN w' b off fs:=by
 intro j hj;obtain⟨vp,vb,⟨c0,c1,c2⟩,hp,hs⟩:=h j hj;have Ja:=b_ c0;exact⟨vp,vb,⟨(hb.cell (p:=⟨b,off+j*3,none⟩) Ja).trans c0,(hb.cell (p:=⟨b,off+j*3+1,none⟩) Ja).trans c1,(hb.cell (p:=⟨b,off+j*3+2,none⟩) Ja).trans c2⟩,hp.below hb,hs.below hb⟩
def dM(w:World)(v:Value)(fs:List Fu):Prop:=∃a cap,v=.slice a fs.length cap/\fs.length<=cap/\cap<=9223372036854775807/\(0<fs.length->∃b off,a=some ⟨b,off,none⟩/\jN w b off fs)
theorem dM.below(h:dM w v fs)(hb:Below w.heap.size w w'):dM w' v fs:=by
 obtain⟨a,Jb,rfl,hl,hm,h⟩:=h;refine⟨a,Jb,rfl,hl,hm,fun h0=>?_⟩;obtain⟨b,Ja,rfl,hc⟩:=h h0;exact⟨b,Ja,rfl,hc.below hb⟩
theorem tK{t:TypeId}{x y:Value}(h:Below (w.heap.size+1) (w.alloc (.cells #[x,y] t)) w'):
  w'.cell? ⟨w.heap.size,0,none⟩=some x/\w'.cell? ⟨w.heap.size,1,none⟩=some y:=by
 refine⟨?_,?_⟩ <;> (rw[h.cell i_];simp)
theorem tM(g:Gl)(w:World):Calls prog 41 #[.agg #[.string g.name,.int .i64 g.size]] w fun e w'=>e=.returned (.bool (bV g))/\Below w.heap.size w w':=by
 obtain⟨s,z⟩:=g;simp only;go_enter func41,ntmps41;go_wp2_with fail;refine(iI _ _).mono ?_;rintro e w1 ⟨rfl,Jb⟩;simp only[World.size_alloc]at Jb;have Ja:=aL Jb;obtain⟨x0,x1⟩:=tK Jb;cases hn:aK s
 ·go_wp2;go_ret;exact⟨aj (by simp only[bV,hn,Bool.false_and]),Ja⟩
 by_cases h0:z<0
 ·go_wp2;go_ret;exact⟨aj (by simp only[bV,hn];simp;omega),Ja⟩
 ·go_wp2;go_ret;refine⟨aj ?_,Ja⟩;simp only[bV,hn,Bool.true_and];apply Bool.eq_iff_iff.2;simp <;> omega
theorem jO(t:Tr)(vg vf:Value)(w:World)(hT:dz w)(ht:i6 t)(hg:dL w vg t.globals)(hf:dM w vf t.funcs):
  Calls prog 19 #[.agg #[vg,vf]] w fun e w'=>e=.returned (.bool (cK t))/\Below w.heap.size w w':=by
 obtain⟨gs,fs⟩:=t;simp only at hg hf⊢;obtain⟨HT,HS⟩:=h2 hT ht;have Jo:gs.length<=1048576:=HS.out.1;have Jn:fs.length<=1048576:=HS.out.2.1;obtain⟨ag,cg,rfl,-,-,Jl⟩:=hg;obtain⟨af,cf,rfl,-,-,Jm⟩:=hf;obtain⟨Jj,Jk⟩:=h2 Jl Jm;by_cases h5:50<gs.length
 ·go_enter func19,ntmps19;go_wp2;go_ret;exact⟨aj (by simp only[cK,decide_eq_false (show ¬gs.length<=50 by omega),Bool.false_and]),r_.alloc n_ _⟩
 by_cases h6:50<fs.length
 ·go_enter func19,ntmps19;go_wp2;go_ret;exact⟨aj (by simp only[cK,decide_eq_false (show ¬fs.length<=50 by omega),Bool.false_and,Bool.and_false]),r_.alloc n_ _⟩
 have Jd:Hid (cK ⟨gs,fs⟩=(gs.all bV&&fs.all cq)):=by
  show _=_;simp only[cK,decide_eq_true (show gs.length<=50 by omega),decide_eq_true (show fs.length<=50 by omega),Bool.true_and]
 go_enter func19,ntmps19;go_wp2;go_loopw[20] (fun i wr=>∃k:Nat,k<=gs.length/\i=.int .i64 k/\(∀g∈gs.take k,bV g=true)/\Below (w.heap.size+1) (w.alloc (.cells #[.slice ag gs.length cg,.slice af fs.length cf] 26)) wr) (fun i _=>gs.length-(RowKit.intOf i).toNat)
 case atStart=>exact⟨0,y_,rfl,i_,r_⟩
 case round=>
  obtain⟨k,hk,rfl,hg,hB⟩:=hrel;have HG:=ah hg;have Ja:=aL hB;by_cases hlt:k<gs.length
  ·obtain⟨b,Jh,rfl,hc⟩:=Jj.out o_;obtain⟨d0,d1⟩:=(hc.below Ja) k hlt;have HE:Hid (gs.take (k+1)=gs.take k++[gs[k]]):=bM gs k hlt;have HX:Hid (bV gs[k]=false->gs.all bV=false):=oJ hlt;generalize gs[k]=g at d0 d1 HE HX;go_wp2_with fail;refine(tM g _).mono ?_;rintro e w2 ⟨rfl,Je⟩;have Jc:=(hB.alloc (by have:=hB.size;simp at this;omega) (.cells #[.string g.name,.int .i64 g.size] 74)).trans (Je.mono (by have:=hB.size;simp at this;simp;omega));cases hv:bV g
   ·go_wp2;go_ret;exact⟨aj (by rw[Jd.out,HX.out hv];rfl),aL Jc⟩
   ·go_wp2;go_roundw
    case rel=>
     refine⟨k+1,o_,by go_num,fun m hm=>?_,Jc⟩;rw[HE.out]at hm;rcases List.mem_append.1 hm with hm|hm
     ·exact HG.out m hm
     ·rw[List.mem_singleton.1 hm];exact hv
    case measure=>simp[RowKit.intOf];omega
  ·have HA:Hid (gs.all bV=true):=by
    show _=_;rw[List.all_eq_true];have:=HG.out;rw[List.take_of_length_le o_]at this;exact this
   obtain⟨x0,x1⟩:=tK hB;go_wp2;go_loopw[31] (fun i wr=>∃k:Nat,k<=fs.length/\i=.int .i64 k/\(∀f∈fs.take k,cq f=true)/\Below (w.heap.size+1) (w.alloc (.cells #[.slice ag gs.length cg,.slice af fs.length cf] 26)) wr) (fun i _=>fs.length-(RowKit.intOf i).toNat)
   case atStart=>exact⟨0,y_,rfl,i_,hB⟩
   case round=>
    obtain⟨k,hk,rfl,hg,hB⟩:=hrel;have HG:=ah hg;have Ja:=aL hB;by_cases hlt:k<fs.length
    ·obtain⟨b,Jh,rfl,hc⟩:=Jk.out o_;obtain⟨vp,vb,⟨d0,d1,d2⟩,hp,hs⟩:=(hc.below Ja) k hlt;have HE:Hid (fs.take (k+1)=fs.take k++[fs[k]]):=bM fs k hlt;have HX:Hid (cq fs[k]=false->fs.all cq=false):=oK hlt;have Jg:Hid (iZ fs[k]):=HS.out.2.2 fs[k] (g_ hlt);generalize fs[k]=f at d0 d1 d2 HE HX Jg hp hs;obtain⟨HP,HB⟩:=h2 hp hs;obtain⟨a2,k2,rfl,-,-,-⟩:=hp;obtain⟨a3,k3,rfl,-,-,-⟩:=hs;have Jb:Bl wr (wr.alloc (.cells #[.string f.name,.slice a2 f.params.length k2,.slice a3 f.body.length k3] 43)):=aD _ _;go_wp2_with fail;refine(tH f _ _ _ ((HT.out.below HT.out.size Ja).below (HT.out.below HT.out.size Ja).size Jb) Jg.out (HP.out.below Jb) (HB.out.below Jb)).mono ?_;rintro e w2 ⟨rfl,Je⟩;have Jf:=Jb.trans (Je.mono Jb.size);have Jc:=hB.trans (Jf.mono (by have:=hB.size;simp at this;omega));cases hv:cq f
     ·go_wp2;go_ret;exact⟨aj (by rw[Jd.out,HX.out hv];simp),aL Jc⟩
     ·go_wp2;go_roundw
      case rel=>
       refine⟨k+1,o_,by go_num,fun m hm=>?_,Jc⟩;rw[HE.out]at hm;rcases List.mem_append.1 hm with hm|hm
       ·exact HG.out m hm
       ·rw[List.mem_singleton.1 hm];exact hv
      case measure=>simp[RowKit.intOf];omega
    ·have Ji:Hid (fs.all cq=true):=by
      show _=_;rw[List.all_eq_true];have:=HG.out;rw[List.take_of_length_le o_]at this;exact this
     go_wp2;go_ret;exact⟨aj (by rw[Jd.out,HA.out,Ji.out];rfl),Ja⟩
end
structure FV where
 f:Fu
 vp:Value
 vb:Value
 R:List SV
 kp:List Nat
 kb:List Nat
def a7(q:FV):List Value:=[.string q.f.name,q.vp,q.vb]
def a_(Q:List FV):List Value:=Q.flatMap a7
def oY(q:FV):List Nat:=q.kp++(q.kb++eH q.R)
def jP(Q:List FV):List Nat:=Q.flatMap oY
theorem eI(Q:List FV):(a_ Q).length=Q.length*3:=by
 induction Q with
 | nil=>rfl
 | cons a r ih=>
  have:(a_ (a::r)).length=3+(a_ r).length:=by simp[a_,a7];omega
  rw[this,ih,l_c];omega
theorem gM(a b:List FV):a_ (a++b)=a_ a++a_ b:=by simp[a_]
theorem j6(a b:List FV):jP (a++b)=jP a++jP b:=by simp[jP]
theorem eJ:∀(Q:List FV) (j i:Nat) (hj:j<Q.length),i<3->(a_ Q)[j*3+i]? =(a7 Q[j])[i]?
 | x::l,0,i,_,hi=>by
  have:(a7 x).length=3:=rfl
  show(a7 x++a_ l)[0*3+i]? =_;rw[List.getElem?_append_left o_];simp
 | x::l,j+1,i,hj,hi=>by
  have h7:(a7 x).length=3:=rfl;show(a7 x++a_ l)[(j+1)*3+i]? =_;rw[List.getElem?_append_right o_];have e:(j+1)*3+i-(a7 x).length=j*3+i:=o_;rw[e,eJ l j i (by simpa using hj) hi];simp
theorem iL:(prog.info? 43).map (fun i=>(i.zero,i.size,i.bytes))=some (some (.agg #[.string ⟨#[]⟩,.slice none 0 0,.slice none 0 0]),3,64):=by kernel_rfl
section
variable{w:World}{v:Value}{us:List ByteArray}{B:Nat}
theorem gA:(prog.info? 9).map (fun i=>(i.zero,i.size,i.bytes))=some (some (.string ⟨#[]⟩),1,16):=by kernel_rfl
def oZ(w:World)(v:Value)(us:List ByteArray):Prop:=∃a cap,v=.slice a us.length cap/\(a=none->us=[])/\∀ad,a=some ad->∀j u,(us.map Value.string)[j]? =some u->w.cell? (ad.add j)=some u
theorem jQ(b o j:Nat):(⟨b,o,none⟩:Addr).add j=⟨b,o+j,none⟩:=by simp only[Addr.add];split <;> simp_all
theorem Strs.src(h:Strs w v us):oZ w v us:=by
 obtain⟨a,Ja,rfl,-,-,h⟩:=h;by_cases hp:0<us.length
 ·obtain⟨b,Jb,rfl,hc⟩:=h hp;refine⟨_,Ja,rfl,(fun h=>by cases h),fun ad had j u hj=>?_⟩;obtain rfl:=Option.some.inj had;have hl:j<us.length:=by
   have:=(List.getElem?_eq_some_iff.1 hj).1
   simpa using this
  have e:u=.string us[j]:=by simpa[hl]using hj.symm
  rw[jQ,e];exact hc j hl
 ·have h0:us=[]:=List.eq_nil_of_length_eq_zero o_;subst h0;exact⟨a,Ja,rfl,fun _=>rfl,fun ad _ j u hj=>by simp at hj⟩
theorem BZ(w:World)(x:ByteArray)(t:TypeId):oZ (w.alloc (.cells #[.string x] t)) (.slice (some ⟨w.heap.size,0,none⟩) 1 1) [x]:=by
 refine⟨_,1,rfl,(fun h=>by cases h),fun ad h j u hj=>?_⟩;obtain rfl:=Option.some.inj h;have hl:j=0:=by
  have:=(List.getElem?_eq_some_iff.1 hj).1
  simp at this;omega
 subst hl;simp at hj;rw[jQ,<-hj];simp
def jb(B:Nat)(w:World)(v:Value)(us:List ByteArray):Prop:=w.ownsRow B 9 1 v us.length (us.map (Value.string))
theorem jb.below{w':World}(h:jb B w v us)(hb:Below w.heap.size w w'):jb B w' v us:=by
 obtain⟨g1,g2⟩:=h;refine⟨g1,?_⟩;rcases g2 with g2|⟨g,Jb,Ja,rfl,g3,g4,g5⟩
 ·exact .inl g2
 ·refine .inr ⟨g,Jb,Ja,rfl,g3,?_,g5⟩;rw[hb.block g (Array.getElem?_eq_some_iff.1 g4).1];exact g4
theorem lf(W:World)(B:Nat)(hB:B<=W.heap.size):jb B (W.alloc (.cells #[] 9)) (.slice (some ⟨W.heap.size,0,none⟩) 0 0) []:=World.ownsRow_lit W #[] 0 hB d_ rfl
theorem we(base:Nat)(ty:TypeId)(v:Value)(xs:List ByteArray)(Ja:jb base w v xs)(x:Value)(us:List ByteArray)(hx:oZ w x us)(hm:xs.length+us.length<=10000000)(Jb:base<=w.heap.size):
  ∃v' w',(Builtin.append_ #[40,40] ty #[v,x]).run prog w=.ok v' w'/\jb base w' v' (xs++us)/\w.grownBy w' v.ownBlock/\∀k,v'.ownBlock=some k->v.ownBlock=some k∨w.heap.size<=k:=by
 obtain⟨i0,hi,Jf,Jh,Jg⟩:=info_parts gA;obtain⟨a,Jc,rfl,h2,h3⟩:=hx;cases a with
 | none=>
  obtain rfl:=h2 rfl;have hr:(Builtin.append_ #[40,40] ty #[v,.slice none ([]:List ByteArray).length Jc]).run prog w=.ok v w:=by
   rcases Ja.2 with⟨rfl,hn⟩|⟨g,Je,Ji,rfl,_,_,Jd,_⟩
   ·simp[Builtin.append_,run_underlying underlying40,sizeOf,typeInfo,hi,Builtin.lenOf,Builtin.firstCells]
   ·simp[Builtin.append_,run_underlying underlying40,sizeOf,typeInfo,hi,Builtin.lenOf,Builtin.firstCells,Jd,storeCells]
  exact⟨v,w,hr,by simpa using Ja,⟨rfl,rfl,rfl,n_,fun _ _ _=>rfl⟩,fun k hk=>.inl hk⟩
 | some ad=>
  obtain⟨v',w',r1,r2,r3,r4⟩:=gK (P:=prog) (w:=w) base 40 ty 9 i0 _ 1 16 underlying40 hi Jf Jh Jg rfl d_ v xs.length (xs.map (Value.string)) Ja ad us.length Jc (us.map (Value.string)) i_ (h3 ad rfl) (by intro u hu;simp at hu;obtain⟨y,_,rfl⟩:=hu;rfl) hm d_ Jb;refine⟨v',w',r1,?_,r3,r4⟩;unfold jb;rw[l_a,List.map_append];exact r2
theorem fy{ops:Array Oper}{o:Oper}{a:Act}{K:Act->World->Prop}{Q:Exit->Act->World->Prop}{E:Prop}(Jd:o.guard=none)(s x:Operand)
  (ho:o.op=.call {callee:=.builtin .append,args:=#[s,x],argTypes:=#[40,40]})
  (base:Nat) (v:Value) (xs:List ByteArray) (hs:a.eval s=v) (Jb:jb base w v xs) (xv:Value) (us:List ByteArray) (Jc:a.eval x=xv) (hx:oZ w xv us)
  (hm:xs.length+us.length<=10000000) (Ja:base<=w.heap.size)
  (h:∀v' w',jb base w' v' (xs++us)->w.grownBy w' v.ownBlock->(∀k,v'.ownBlock=some k->v.ownBlock=some k∨w.heap.size<=k)->K (a.put o.dst v') w'):
  if Region.wanted o (yielded ops a.tmps)=true then Oper.wp prog o a w K Q else E:=by
 have hw:Region.wanted o (yielded ops a.tmps)=true:=by simp[Region.wanted,Jd]
 rw[if_pos hw];obtain⟨v',w',hr,h2,h3,h4⟩:=we (w:=w) base o.type v xs Jb xv us hx hm Ja;unfold Oper.wp execOp;simp only[ho,resolve,invoke,builtin,Sem.run_bind,Sem.run_pure,Result.andThen_ok,List.map_toArray,List.map_cons,List.map_nil,hs,Jc,hr];exact h v' w' h2 h3 h4
end
section
variable{n k K:Nat}{s s':PS}{t t':Tr}
def nr(T:Nat->To)(n:Nat):Nat->PS->Tr->Tr->PS->Prop
 | 0,s,t,t',s'=>(s.er≠0∨(T s.i).kind=4)/\t'=t/\s'=s
 | k+1,s,t,t',s'=>s.er=0/\(T s.i).kind≠4/\∃x s1,Tp T n s x s1/\nr T n k s1 (ci t x) t' s'
theorem Pg.steps{T:Nat->To}(h:Pg T n s t t' s'):∃k,nr T n k s t t' s':=by
 induction h using Pg_i with
 | done s t h=>exact⟨0,h,rfl,rfl⟩
 | more s t x s1 t' s' h0 h4 h1 h2 ih=>
  obtain⟨k,hk⟩:=ih;exact⟨k+1,h0,h4,x,s1,h1,hk⟩
theorem nr.pg{T:Nat->To}{n:Nat}:∀ {k:Nat} {s:PS} {t t':Tr} {s':PS},nr T n k s t t' s'->Pg T n s t t' s'
 | 0,s,t,t',s',h=>by
  obtain⟨h1,rfl,rfl⟩:=h;exact .done _ _ h1
 | k+1,s,t,t',s',h=>by
  obtain⟨h0,h4,x,s1,hx,h2⟩:=h;exact .more s t x s1 t' s' h0 h4 hx h2.pg
theorem nr.end'{T:Nat->To}(h:nr T n k s t t' s')(hd:s.er≠0∨(T s.i).kind=4):t'=t/\s'=s:=by
 cases k with
 | zero=>exact⟨h.2.1,h.2.2⟩
 | succ k=>
  obtain⟨h0,h4,-⟩:=h;rcases hd with hd|hd
  ·exact absurd h0 hd
  ·exact absurd hd h4
theorem nr.more'{T:Nat->To}(h:nr T n k s t t' s')(h0:s.er=0)(h4:(T s.i).kind≠4):∃m x s1,k=m+1/\Tp T n s x s1/\nr T n m s1 (ci t x) t' s':=by
 cases k with
 | zero=>
  rcases h.1 with h1|h1
  ·exact absurd h0 h1
  ·exact absurd h1 h4
 | succ k=>
  obtain⟨-,-,x,s1,hx,h2⟩:=h;exact⟨k,x,s1,rfl,hx,h2⟩
theorem nr.sizes{T:Nat->To}{n K:Nat}{k:Nat}{s1:PS}{t t':Tr}{s':PS}{x:Gl ⊕ Fu}(h:nr T n k s1 (ci t x) t' s')(hs:zg K 0 t')(hK:K<=20000):(∀f,x=.inr f->f.params.length<=1000000/\fJ f.body<=1000000)/\t.globals.length<=100000/\t.funcs.length<=100000:=by
 obtain⟨⟨a,ha⟩,b,hb⟩:=h.pg.grow;have hl:=hs.gl;rw[ha,hb]at hl;simp only[l_a]at hl;refine⟨fun f hf=>?_,?_,?_⟩
 ·subst hf;have:=hs.fs f (by rw[hb];simp[ci])
  unfold Eo at this;omega
 ·cases x <;> simp only[ci,l_a,List.length_singleton]at hl <;> omega
 ·cases x <;> simp only[ci,l_a,List.length_singleton]at hl <;> omega
theorem B_{s:St}{l:List St}(h:s∈l):s.e.length+s.f.length<=fJ l:=by
 induction l with
 | nil=>cases h
 | cons a r ih=>
  rw[szS_cons];rcases List.mem_cons.1 h with rfl|h
  ·omega
  ·have:=ih h;omega
theorem Ca(l:List St):l.length<=fJ l:=by
 induction l with
 | nil=>exact n_
 | cons s l ih=>rw[szS_cons];simp only[l_c];omega
theorem zg.small(h:zg K 0 t)(hK:K<=20000):i6 t:=by
 have hl:=h.gl;refine⟨o_,o_,fun f hf=>?_⟩;have hf:=h.fs f hf;unfold Eo at hf;have:=Ca f.body;refine⟨o_,o_,fun s hs=>?_⟩;have:=B_ hs;exact⟨o_,o_⟩
def qy:PS:=⟨0,0,0,0⟩
def t00:Tr:=⟨[],[]⟩
structure Rn (l:List UInt8) (T:Nat->To) (K k:Nat) (t:Tr) (s:PS):Prop where
 las:ft T K
 kl:K<=l.length
 pg:nr T (20*K+40) k qy t00 t s
 sm:zg K 0 t
theorem zv{l:List UInt8}{T:Nat->To}(hL:ft T K)(hK:K<=l.length):∃k t s,Rn l T K k t s:=by
 obtain⟨t,s,h1,h2,h3⟩:=zi hL (Mo K qy) qy t00 rfl y_ ⟨by have:=AF (K:=K) (s:=qy) y_;simp only[t00,l_n];omega,fun f hf=>by cases hf⟩;obtain⟨k,hk⟩:=h1.steps;exact⟨k,t,s,hL,hK,hk,h3⟩
def f_(l:List UInt8)(t:Tr)(s:PS):Int×Int×Tr:=if s.er≠0 then(s.er,s.pl,t00)else if cK t=true then(0,0,t)else(5,(l.length:Int),t00)
end
theorem jR(t:Tr)(vg vf:Value)(w:World)(ht:i6 t)(hg:dL w vg t.globals)(hf:dM w vf t.funcs):
  Calls prog 17 #[.agg #[vg,vf]] w fun e w'=>e=.returned (.bool (cK t))/\Below w.heap.size w w':=by
 obtain⟨gs,fs⟩:=t;simp only at hg hf⊢;have HS:=ah ht;have Jo:gs.length<=1048576:=HS.out.1;have Jn:fs.length<=1048576:=HS.out.2.1;obtain⟨ag,cg,rfl,-,-,Jl⟩:=hg;obtain⟨af,cf,rfl,-,-,Jm⟩:=hf;obtain⟨Ji,Jj⟩:=h2 Jl Jm;by_cases h5:50<gs.length
 ·go_enter func17,ntmps17;go_wp2;go_ret;exact⟨aj (by simp only[cK,decide_eq_false (show ¬gs.length<=50 by omega),Bool.false_and]),r_.alloc n_ _⟩
 by_cases h6:50<fs.length
 ·go_enter func17,ntmps17;go_wp2;go_ret;exact⟨aj (by simp only[cK,decide_eq_false (show ¬fs.length<=50 by omega),Bool.false_and,Bool.and_false]),r_.alloc n_ _⟩
 have Jb:Hid (cK ⟨gs,fs⟩=(gs.all bV&&fs.all cq)):=by
  show _=_;simp only[cK,decide_eq_true (show gs.length<=50 by omega),decide_eq_true (show fs.length<=50 by omega),Bool.true_and]
 go_enter func17,ntmps17;go_wp2;go_loopw[3] (fun i wr=>∃k:Nat,k<=gs.length/\i=.int .i64 k/\(∀g∈gs.take k,bV g=true)/\Below (w.heap.size+1) (w.alloc (.cells #[.slice ag gs.length cg,.slice af fs.length cf] 26)) wr) (fun i _=>gs.length-(RowKit.intOf i).toNat)
 case atStart=>exact⟨0,y_,rfl,i_,r_⟩
 case round=>
  obtain⟨k,hk,rfl,hg,hB⟩:=hrel;have HG:=ah hg;have Ja:=aL hB;by_cases hlt:k<gs.length
  ·obtain⟨b,Jg,rfl,hc⟩:=Ji.out o_;obtain⟨d0,d1⟩:=(hc.below Ja) k hlt;have HE:Hid (gs.take (k+1)=gs.take k++[gs[k]]):=bM gs k hlt;have HX:Hid (bV gs[k]=false->gs.all bV=false):=oJ hlt;generalize gs[k]=g at d0 d1 HE HX;obtain⟨x0,x1⟩:=tK hB;obtain⟨s,z⟩:=g;simp only at d0 d1;cases hv:aK s
   ·have Jc:bV ⟨s,z⟩=false:=by simp only[bV,hv,Bool.false_and]
    have HV:=ah Jc;go_wp2_with(go_at_call 37;refine(aH _ _).mono ?_;rintro e w' ⟨rfl,rfl⟩;rw[hv]);go_ret;exact⟨aj (by rw[Jb.out,HX.out HV.out];rfl),Ja⟩
   cases hz:decide (0<=z/\z<=4000)
   ·have Jc:bV ⟨s,z⟩=false:=by simp only[bV,hv,hz,Bool.and_false]
    obtain⟨HV,HZ⟩:=h2 Jc hz;go_wp2_with(first|(go_at_call 37;refine(aH _ _).mono ?_;rintro e w' ⟨rfl,rfl⟩;rw[hv])|(go_at_call 38;refine(fg _ _ _ _).mono ?_;rintro e w' ⟨rfl,rfl⟩;rw[HZ.out]));go_ret;exact⟨aj (by rw[Jb.out,HX.out HV.out];rfl),Ja⟩
   ·have HV:Hid (bV ⟨s,z⟩=true):=by
     show _=_;simp only[bV,hv,hz,Bool.and_self]
    have HZ:=ah hz;go_wp2_with(first|(go_at_call 37;refine(aH _ _).mono ?_;rintro e w' ⟨rfl,rfl⟩;rw[hv])|(go_at_call 38;refine(fg _ _ _ _).mono ?_;rintro e w' ⟨rfl,rfl⟩;rw[HZ.out]));go_roundw
    case rel=>
     refine⟨k+1,o_,by go_num,fun m hm=>?_,hB⟩;rw[HE.out]at hm;rcases List.mem_append.1 hm with hm|hm
     ·exact HG.out m hm
     ·rw[List.mem_singleton.1 hm];exact HV.out
    case measure=>simp[RowKit.intOf];omega
  ·have HA:Hid (gs.all bV=true):=by
    show _=_;rw[List.all_eq_true];have:=HG.out;rw[List.take_of_length_le o_]at this;exact this
   obtain⟨x0,x1⟩:=tK hB;go_wp2;go_loopw[4] (fun i wr=>∃k:Nat,k<=fs.length/\i=.int .i64 k/\(∀f∈fs.take k,cq f=true)/\Below (w.heap.size+1) (w.alloc (.cells #[.slice ag gs.length cg,.slice af fs.length cf] 26)) wr) (fun i _=>fs.length-(RowKit.intOf i).toNat)
   case atStart=>exact⟨0,y_,rfl,i_,hB⟩
   case round=>
    obtain⟨k,hk,rfl,hg,hB⟩:=hrel;have HG:=ah hg;have Ja:=aL hB;by_cases hlt:k<fs.length
    ·obtain⟨b,Jg,rfl,hc⟩:=Jj.out o_;obtain⟨vp,vb,⟨d0,d1,d2⟩,hp,hs⟩:=(hc.below Ja) k hlt;have HE:Hid (fs.take (k+1)=fs.take k++[fs[k]]):=bM fs k hlt;have HX:Hid (cq fs[k]=false->fs.all cq=false):=oK hlt;have Je:Hid (iZ fs[k]):=HS.out.2.2 fs[k] (g_ hlt);generalize fs[k]=f at d0 d1 d2 HE HX Je hp hs;obtain⟨HP,HB⟩:=h2 hp hs;obtain⟨a2,k2,rfl,-,-,-⟩:=hp;obtain⟨a3,k3,rfl,-,-,-⟩:=hs;obtain⟨x0,x1⟩:=tK hB;go_wp2_with fail;refine(tJ f _ _ _ Je.out HP.out HB).mono ?_;rintro e w2 ⟨rfl,Jk⟩;have Jd:=Jk;have Jf:=hB.trans (Jd.mono (by have:=hB.size;simp at this;omega));cases hv:cq f
     ·go_wp2;go_ret;exact⟨aj (by rw[Jb.out,HX.out hv];simp),aL Jf⟩
     ·go_wp2;go_roundw
      case rel=>
       refine⟨k+1,o_,by go_num,fun m hm=>?_,Jf⟩;rw[HE.out]at hm;rcases List.mem_append.1 hm with hm|hm
       ·exact HG.out m hm
       ·rw[List.mem_singleton.1 hm];exact hv
      case measure=>simp[RowKit.intOf];omega
    ·have Jh:Hid (fs.all cq=true):=by
      show _=_;rw[List.all_eq_true];have:=HG.out;rw[List.take_of_length_le o_]at this;exact this
     obtain⟨x0,x1⟩:=tK hB;go_wp2;go_ret;exact⟨aj (by rw[Jb.out,HA.out,Jh.out];rfl),Ja⟩
theorem mu{w:World}{b:Nat}{x:ByteArray}(h:w.cell? ⟨b,0,none⟩=some (.string x)):oZ w (.slice (some ⟨b,0,none⟩) 1 1) [x]:=by
 refine⟨_,1,rfl,(fun h=>by cases h),fun ad had j u hj=>?_⟩;obtain rfl:=Option.some.inj had;have hl:j=0:=by
  have:=(List.getElem?_eq_some_iff.1 hj).1
  simp at this;omega
 subst hl;simp at hj;rw[jQ,<-hj];exact h
theorem EU(W:World)(v:Value)(us:List ByteArray)(h:Strs W v us):jb W.heap.size (W.drew.alloc (.cells #[] 9)) (.slice (some ⟨W.heap.size,0,none⟩) 0 0) []/\oZ (W.drew.alloc (.cells #[] 9)) v us/\Below W.heap.size W (W.drew.alloc (.cells #[] 9)):=by
 have hb:Bl W (W.drew.alloc (.cells #[] 9)):=((Below.refl W.heap.size W).drew).alloc n_ _;exact⟨lf W.drew _ n_,(h.below hb).src,hb⟩
theorem EV(W:World)(v:Value)(us:List ByteArray)(x:ByteArray)(h:Strs W v us):jb W.heap.size ((W.drew.alloc (.cells #[] 9)).alloc (.cells #[.string x] 9)) (.slice (some ⟨W.heap.size,0,none⟩) 0 0) []/\oZ ((W.drew.alloc (.cells #[] 9)).alloc (.cells #[.string x] 9)) v us/\Below W.heap.size W ((W.drew.alloc (.cells #[] 9)).alloc (.cells #[.string x] 9))/\((W.drew.alloc (.cells #[] 9)).alloc (.cells #[.string x] 9)).cell? ⟨W.heap.size+1,0,none⟩=some (.string x):=by
 have Ja:Bl W (W.drew.alloc (.cells #[] 9)):=((Below.refl W.heap.size W).drew).alloc n_ _;have hb:Bl W ((W.drew.alloc (.cells #[] 9)).alloc (.cells #[.string x] 9)):=Ja.alloc Ja.size _;exact⟨(lf W.drew _ n_).below (aD _ _),(h.below hb).src,hb,(World.cell?_alloc_at _ _ _ _ i_).trans rfl⟩
theorem EW(W:World)(v:Value)(us:List ByteArray)(x:ByteArray)(h:Strs W v us):jb W.heap.size ((W.drew.alloc (.cells #[.string x] 9)).alloc (.cells #[] 9)) (.slice (some ⟨W.heap.size+1,0,none⟩) 0 0) []/\oZ ((W.drew.alloc (.cells #[.string x] 9)).alloc (.cells #[] 9)) v us/\Below W.heap.size W ((W.drew.alloc (.cells #[.string x] 9)).alloc (.cells #[] 9))/\((W.drew.alloc (.cells #[.string x] 9)).alloc (.cells #[] 9)).cell? ⟨W.heap.size,0,none⟩=some (.string x):=by
 have Ja:Bl W (W.drew.alloc (.cells #[.string x] 9)):=((Below.refl W.heap.size W).drew).alloc n_ _;have hb:Bl W ((W.drew.alloc (.cells #[.string x] 9)).alloc (.cells #[] 9)):=Ja.alloc Ja.size _;have h1:=lf (W.drew.alloc (.cells #[.string x] 9)) W.heap.size i_;have e:(W.drew.alloc (.cells #[.string x] 9)).heap.size=W.heap.size+1:=i_;rw[e]at h1;refine⟨h1,(h.below hb).src,hb,?_⟩;rw[World.cell?_alloc_lt _ _ ⟨W.heap.size,0,none⟩ i_];exact(World.cell?_alloc_at _ _ _ _ i_).trans rfl
theorem tN{W W1 w1:World}{v:Value}{xs:List ByteArray}(hb:Below W.heap.size W W1)(hr:jb W.heap.size W1 v xs)(hg:W1.grownBy w1 v.ownBlock):Below W.heap.size W w1:=hb.grown hg hb.size (fun j hj=>(World.ownsRow.lt hr j hj).1)
end Go.Proofs.YtlamjfhhefcohaaGreatDoor
