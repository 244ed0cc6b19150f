import Derived.Test.YtlamjfhhefcohaaGreatDoorP04
import Derived.Test.YtlamjfhhefcohaaGreatDoorP15
import Derived.Test.YtlamjfhhefcohaaGreatDoorP10
set_option linter.unusedSectionVars false
variable [Inhabited Go.Proofs.YtlamjfhhefcohaaGreatDoor.Pick]
namespace Go.Proofs.YtlamjfhhefcohaaGreatDoor
open Go.Proofs.Tryz
open Go.RowKit
set_option linter.all false
set_option maxRecDepth 100000
set_option maxHeartbeats 16000000
section
variable{w w' W:World}{b B:Nat}{l:List UInt8}{v:Value}{ts:List To}
theorem mB(b o j:Nat):(⟨b,o,none⟩:Addr).add j=⟨b,o+j,none⟩:=by simp[Addr.add]
def ia(w:World)(b:Nat)(l:List UInt8):Prop:=∀j (hj:j<l.length),w.cell? ⟨b,j,none⟩=some (.int .u8 (cI l[j]))
theorem ia.below(h:ia w b l){n:Nat}(hb:Below n w w')(hn:b<n):ia w' b l:=fun j hj=>(c_ (a:=⟨b,j,none⟩) (hb.block b hn)).trans (h j hj)
theorem ia.tcs{S:Nat->Prop}(h:ia w b l)(ht:am S w w')(hb:b<w.heap.size)(hn:¬S b):ia w' b l:=fun j hj=>(c_ (a:=⟨b,j,none⟩) (ht.block b hb hn)).trans (h j hj)
theorem lr(b n cap lo hi:Nat)(h1:lo<=hi)(h2:hi<=n)(h3:n<=cap):∀w:World,(Instr.slice 22 (.slice (some ⟨b,0,none⟩) n cap) (some (.int .i64 lo)) (some (.int .i64 hi)) none).run prog w=.ok (.slice (some ⟨b,if cap=lo then 0 else lo,none⟩) (hi-lo) (cap-lo)) w:=by
 intro w;have hz:prog.elem 22=5:=k_;have hs:(sizeOf 5).run prog w=.ok 1 w:=k_;rw[run_slice_lh w 22 _ n cap (by rw[hz];exact underlying22) .i64 .i64 _ _ o_ o_ o_,hz,hs];simp only[Result.andThen,sliced,Int.toNat_natCast];split <;> simp[Addr.add] <;> omega
theorem lu(b n cap lo:Nat)(h2:lo<=n)(h3:n<=cap):∀w:World,(Instr.slice 22 (.slice (some ⟨b,0,none⟩) n cap) (some (.int .i64 lo)) none none).run prog w=.ok (.slice (some ⟨b,if cap=lo then 0 else lo,none⟩) (n-lo) (cap-lo)) w:=by
 intro w;have hz:prog.elem 22=5:=k_;have hs:(sizeOf 5).run prog w=.ok 1 w:=k_;rw[run_slice_l w 22 _ n cap (by rw[hz];exact underlying22) .i64 _ o_ o_,hz,hs];simp only[Result.andThen,sliced,Int.toNat_natCast];split <;> simp[Addr.add] <;> omega
theorem po(h:ia W b l)(o c lo d:Nat)(hd:lo+d<=l.length)(ho:0<d->o=lo):(convert 22 9 (.slice (some ⟨b,o,none⟩) d c)).run prog W=.ok (.string (tx ((l.drop lo).take d))) W:=by
 have hl:((l.drop lo).take d).length=d:=by rw[List.length_take,List.length_drop];omega
 have:=run_convert_bytes_back (P:=prog) W 22 9 5 ⟨b,o,none⟩ c ((l.drop lo).take d) underlying22 underlying5 underlying9 (fun j hj=>by
  have Ja:j<d:=o_;have e:=h (lo+j) o_;rw[List.getElem_take,List.getElem_drop];rw[ho o_,mB];exact e)
 rw[hl]at this;exact this
def fh(t:To):List Value:=[.int .i64 t.kind,.string t.text,.int .i64 t.num,.int .i64 (t.pl:Int)]
def fU(ts:List To):List Value:=ts.flatMap fh
theorem ue(ts:List To):(fU ts).length=ts.length*4:=by
 induction ts with
 | nil=>rfl
 | cons a r ih=>
  have:(fU (a::r)).length=4+(fU r).length:=by simp[fU,fh];omega
  rw[this,ih,l_c];omega
theorem nC(a b:List To):fU (a++b)=fU a++fU b:=by simp[fU]
theorem mC:∀(R:List To) (j i:Nat) (hj:j<R.length),i<4->(fU R)[j*4+i]? =(fh R[j])[i]?
 | x::l,0,i,_,hi=>by
  have:(fh x).length=4:=rfl
  show(fh x++fU l)[0*4+i]? =_;rw[List.getElem?_append_left o_];simp
 | x::l,j+1,i,hj,hi=>by
  have h7:(fh x).length=4:=rfl;show(fh x++fU l)[(j+1)*4+i]? =_;rw[List.getElem?_append_right o_];have e:(j+1)*4+i-(fh x).length=j*4+i:=o_;rw[e,mC l j i (by simpa using hj) hi];simp
theorem wC:(prog.info? 55).map (fun i=>(i.zero,i.size,i.bytes))=some (some (.agg #[.int .i64 0,.string ⟨#[]⟩,.int .i64 0,.int .i64 0]),4,40):=by kernel_rfl
def im(B:Nat)(w:World)(v:Value)(ts:List To):Prop:=w.ownsRow B 55 4 v ts.length (fU ts)
theorem im.below(h:im B w v ts)(hb:Below w.heap.size w w'):im B w' v ts:=ownB h hb
theorem wD(w:World)(B:Nat)(hB:B<=w.heap.size):im B (w.alloc (.cells #[] 55)) (.slice (some ⟨w.heap.size,0,none⟩) 0 0) []:=
 World.ownsRow_lit w #[] 0 hB d_ rfl
theorem pq(t:To)(h:im B w v ts)(hB:B<=w.heap.size)(hn:ts.length<=1000000)(hW:W=w.alloc (.cells #[.int .i64 t.kind,.string t.text,.int .i64 t.num,.int .i64 (t.pl:Int)] 55))(hb:b=w.heap.size):
  ∃v' w',(Builtin.append_ #[50,50] 50 #[v,.slice (some ⟨b,0,none⟩) 1 1]).run prog W=.ok v' w'/\im B w' v' (ts++[t])/\Below B w w':=by
 obtain⟨i0,hi,Jd,Jc,Jb⟩:=info_parts wC;have Ja:Bl w W:=by rw[hW];exact r_.alloc n_ _
 have hx:aR W b (fh t):=by rw[hW,hb];exact aJ w #[.int .i64 t.kind,.string t.text,.int .i64 t.num,.int .i64 (t.pl:Int)] _ (by show 4<=1000;omega)
 obtain⟨v',w',r1,r2,r3,r4⟩:=bS (P:=prog) (w:=W) B 50 50 55 i0 _ 4 40 underlying50 hi Jd Jc Jb rfl d_ v ts.length (fU ts) (h.below Ja) (some ⟨b,0,none⟩) 1 1 (fh t) (fun h=>by cases h) rfl (fun ad had j u hj=>by
  cases had
  rw[mB,Nat.zero_add];exact(hx j u hj).1) (fun u hu=>by
  simp only[fh,List.mem_cons,List.not_mem_nil,or_false]at hu;rcases hu with rfl|rfl|rfl|rfl <;> rfl) o_ d_ (t_ hB Ja.size)
 refine⟨v',w',r1,?_,?_⟩
 ·show World.ownsRow _ _ _ _ _ _ _;rw[l_a,nC];simpa[fU]using r2
 ·exact(Ja.mono hB).grown r3 (t_ hB Ja.size) (fun k hk=>(World.ownsRow.lt h k hk).1)
theorem im.tks{T:Nat->To}{K:Nat}(h:im B w v ((List.range (K+1)).map T)):∃b c,v=.slice (some ⟨b,0,none⟩) (K+1) c/\B<=b/\b<w.heap.size/\∀P,Dk w ⟨P,b,c,K,T⟩:=by
 have h0:=h;have hl:((List.range (K+1)).map T).length=K+1:=i_;unfold im at h0;rw[hl]at h0;rcases h0.2 with⟨-,hz⟩|⟨g,Jc,Je,rfl,h3,h4,h5⟩
 ·omega
 ·refine⟨g,Jc,rfl,h3,(Array.getElem?_eq_some_iff.1 h4).1,fun P=>⟨fun j hj=>?_⟩⟩;have Jd:j<=K:=hj;have Jb:j<((List.range (K+1)).map T).length:=o_
  have e:((List.range (K+1)).map T)[j]=T j:=i_;have Ja:∀i,i<4->w.cell? ⟨g,j*4+i,none⟩=(fh (T j))[i]? := fun i hi=>by
   have hf:=ue ((List.range (K+1)).map T);rw[World.ownsRow.cellAt h0 (j*4+i) o_,mC _ j i Jb hi,e]
  exact⟨Ja 0 o_,Ja 1 o_,Ja 2 o_,Ja 3 o_⟩
end
section
variable{w:World}{b i n L k:Nat}{l:List UInt8}
def zB:List Value:=cr.map (fun x=>.string (tx x))
theorem pt(w:World):Calls prog 81 #[] w fun e w'=>∃b,e=.returned (.slice (some ⟨b,0,none⟩) 29 29)/\w.heap.size<=b/\aR w' b zB/\Below w.heap.size w w':=by
 have hx:=fun T=>aJ w zB.toArray T (by show 29<=1000;omega);have HX:=ah hx;have HB:Hid (∀o,Bl w (w.alloc o)):=fun o=>r_.alloc n_ _;clear hx;go_enter func81,ntmps81;go_wp2
 go_ret;exact⟨_,rfl,n_,HX.out _,HB.out _⟩
theorem iq(c:Int)(w:World):Calls prog 47 #[.int .u8 c] w fun e w'=>e=.returned (.bool (digitB c))/\w'=w:=by
 go_enter func47,ntmps47;go_wp2
 all_goals go_ret
 all_goals (refine⟨aj ?_,rfl⟩;apply Bool.eq_iff_iff.2;simp[digitB] <;> omega)
theorem ir{B:Nat}{w1:World}(h:Below B w w1)(n:Nat):Below B w (w1.drewN n):=⟨h.1,h.2,h.3,h.4,h.5⟩
theorem mE{xs:List Value}(h:aR w b xs)(n:Nat):aR (w.drewN n) b xs:=h
theorem mF(h:ia w b l)(n:Nat):ia (w.drewN n) b l:=h
theorem Cg(hi:i<L)(hL:L<=1000000)(hn:n<=2):wrap64 ((i:Int)+(n:Int))=(i:Int)+(n:Int)/\IntKind.i64.wrap ((i:Int)+(n:Int))=(i:Int)+(n:Int):=by
 constructor
 ·unfold wrap64;omega
 ·rw[IntKind.wrap_i64];omega
theorem DN(h:i+n<=L):decide ((i:Int)+(n:Int)<=(L:Int))=true:=by simp;omega
theorem DP(h:¬i+n<=L):decide ((i:Int)+(n:Int)<=(L:Int))=false:=by simp;omega
theorem Ci{c:Nat}(h:0<n)(hle:i+n<=L)(hc:L<=c):(if c=i then 0 else i)=i:=if_neg o_
theorem zC{x:List UInt8}(hi:i<l.length)(hn:n=x.length)(Ja:¬i+n<=l.length)(e:(l.drop i).take n=x):False:=by
 have:=congrArg List.length e
 rw[List.length_take,List.length_drop,<-hn]at this;omega
theorem zD(hk:k<29)(Ja:k<cr.length):(cr[k]).length<=2:=by
 have h1:=ng k Ja;by_cases h8:k<8
 ·have:=(oN k h8).1;rw[h1]at this;omega
 ·have:=(oO k hk o_).1;rw[h1]at this;omega
theorem wE{r:List UInt8}(hka:k<cr.length)(hno:∀j (hj:j<cr.length),j<k->r.take (cr[j]).length≠cr[j])(h:r.take (cr[k]).length≠cr[k]):∀j (hj:j<cr.length),j<k+1->r.take (cr[j]).length≠cr[j]:=fun j hj hjk=>by
 by_cases e:j=k
 ·subst e;exact h
 ·exact hno j hj o_
theorem zE(h:k<29):(k:Int)<29:=by omega
theorem Cj(h:k<=29)(h':¬k<29):k=29:=by omega
theorem zF(b c:Nat)(Ja:i+n<=L)(hc:L<=c)(W:World):(Instr.slice 22 (.slice (some ⟨b,0,none⟩) L c) (some (.int .i64 (i:Int))) (some (.int .i64 ((i:Int)+(n:Int)))) none).run prog W=.ok (.slice (some ⟨b,if c=i then 0 else i,none⟩) n (c-i)) W:=by
 have h:=lr b L c i (i+n) o_ Ja hc W;rw[Int.natCast_add,Nat.add_sub_cancel_left]at h;exact h
theorem qB(w:World)(b c:Nat)(l:List UInt8)(i:Nat)(hT:ia w b l)(hb:b<w.heap.size)(hi:i<l.length)(hl:l.length<=1000000)(hc:l.length<=c):
  Calls prog 48 #[.slice (some ⟨b,0,none⟩) l.length c,.int .i64 (i:Int)] w fun e w'=>e=.returned (.string (tx (bD (l.drop i))))/\Below w.heap.size w w':=by
 obtain⟨HT,HS,Jg,Jj⟩:=h4 hT (pt w) (fun (k:Nat) (hk:k<cr.length)=>zm (r:=l.drop i) hk) (Bt (r:=l.drop i));generalize bD (l.drop i)=sy at*;clear hT;go_enter func48,ntmps48;go_wp2_with fail;refine HS.out.mono ?_;rintro e w1 ⟨g,rfl,hg,hx,Jh⟩;obtain⟨HX,Jb⟩:=h2 hx Jh;have Jc:Hid (ia w1 b l):=HT.out.below Jh hb;go_wp2;go_loopw[6] (fun u wr=>∃k:Nat,k<=29/\u=.int .i64 k/\(∀j (hj:j<cr.length),j<k->(l.drop i).take (cr[j]).length≠cr[j])/\aR wr g zB/\ia wr b l/\Bl w wr) (fun u _=>29-(RowKit.intOf u).toNat)
 case atStart=>exact⟨0,y_,rfl,fun j hj hk=>absurd hk (Nat.not_lt_zero _),HX,Jc,Jb⟩
 case round=>
  clear HX Jc Jb;obtain⟨k,hk,rfl,Jm,hX,hT,hB⟩:=hrel;obtain⟨Je,HX,Jc,Jb⟩:=h4 Jm hX hT hB;by_cases hlt:k<29
  ·have Jd:k<cr.length:=by rw[ic];exact hlt
   have ck:wr.cell? ⟨g,k,none⟩=some (.string (tx cr[k])):=(HX.out k _ (by simp[zB,List.getElem?_eq_getElem Jd])).1;obtain⟨HY,HZ⟩:=h2 (Jg.out k Jd Je) (wE Jd Je);have Ji:(cr[k]).length<=2:=zD hlt Jd;have Jk:(tx cr[k]).size=(cr[k]).length:=tx_size _;generalize cr[k]=x at*;obtain⟨n,hn⟩:∃n:Nat,n=x.length:=⟨_,rfl⟩;rw[<-hn]at Jk Ji HY HZ;have HN:=ah hn;clear hn;have Jq:=zE hlt;obtain⟨Jo,Jp⟩:=Cg hi hl Ji;by_cases hle:i+n<=l.length
   ·have hd:decide ((i:Int)+(n:Int)<=(l.length:Int))=true:=DN hle;have Jl:=fun W=>zF b c hle hc W;have Ja:∀W,ia W b l->(convert 22 9 (.slice (some ⟨b,if c=i then 0 else i,none⟩) n (c-i))).run prog W=.ok (.string (tx ((l.drop i).take n))) W:=fun W hW=>po hW _ _ i n hle (fun h=>Ci h hle hc);have Jn:=fun m=>Ja (wr.drewN m) Jc;generalize (if c=i then 0 else i)=o at*;generalize c-i=c' at*;by_cases he:(l.drop i).take n=x
    ·have HF:=ah (HY.out he);rw[he]at Jn;have hq:((tx x).toList == (tx x).toList)=true:=i_
     go_wp2_with fail;go_quiet (fail);go_wp2;go_ret;exact⟨by rw[HF.out];rfl,ir Jb.out _⟩
    ·have Jf:=ah (HZ.out he);have hq:((tx ((l.drop i).take n)).toList == (tx x).toList)=false:=by rw[str_eq,decide_eq_false];intro e;exact he (by unfold tx at e;simpa using e)
     generalize tx ((l.drop i).take n)=y at*;clear Ja HY HZ Jg he;go_wp2_with fail;go_quiet (fail);go_wp2;go_roundw
     case rel=>exact⟨k+1,hlt,by go_num,Jf,mE HX.out _,mF Jc.out _,ir Jb.out _⟩
     case measure=>simp[RowKit.intOf];omega
   ·have hd:decide ((i:Int)+(n:Int)<=(l.length:Int))=false:=DP hle;have Jf:=ah (HZ.out (fun e=>zC hi HN.out hle e));go_wp2_with fail;go_quiet (fail)
    go_wp2;go_roundw
    case rel=>exact⟨k+1,hlt,by go_num,Jf,mE HX.out _,mF Jc.out _,ir Jb.out _⟩
    case measure=>simp[RowKit.intOf];omega
  ·obtain rfl:=Cj hk hlt;have HF:Hid (sy=[]):=Jj.out (fun j hj=>Je.out j hj (by rw[ic]at hj;exact hj));clear Jg Jj Je;go_wp2;go_ret;exact⟨by rw[HF.out];rfl,Jb⟩
end
section
variable{j m k b M5 M6 L:Nat}{x v:Value}{w0 w' W:World}{l:List UInt8}{t:To}{xs:List Value}{c:UInt8}
structure LB (w0:World) (b:Nat) (l:List UInt8) (v:Value) (ts:List To) (M5 M6:Nat) (xs:List Value) (k:Nat) (W:World):Prop where
 row:im w0.heap.size W v ts
 be:Below w0.heap.size w0 W
 tx:ia W b l
 b5:aR W M5 [.int .i64 5,.string ⟨#[]⟩,.int .i64 0,.int .i64 (k:Int)]
 b6:aR W M6 xs
 l5:M5<W.heap.size
 l6:M6<W.heap.size
 m5:w0.heap.size<=M5
 m6:w0.heap.size<=M6
 ne:M5≠M6
 nv:∀g,v.ownBlock=some g->g≠M5/\g≠M6
 bw:b<w0.heap.size
section
variable{w0 W W':World}{b:Nat}{l:List UInt8}{v:Value}{ts:List To}{M5 M6:Nat}{xs:List Value}{k:Nat}
theorem LB.new{wr:World}(hr:im w0.heap.size wr v ts)(hb:Below w0.heap.size w0 wr)(ht:ia wr b l)(Jc:b<w0.heap.size)(hW:W=wr.alloc (.cells #[.int .i64 5,.string ⟨#[]⟩,.int .i64 0,.int .i64 (k:Int)] 55))(hM:M5=wr.heap.size)(Ja:W'=W.alloc (.cells #[.int .i64 0,.string ⟨#[]⟩,.int .i64 0,.int .i64 (k:Int)] 55))(Jd:M6=W.heap.size):
  LB w0 b l v ts M5 M6 [.int .i64 0,.string ⟨#[]⟩,.int .i64 0,.int .i64 (k:Int)] k W':=by
 have b1:Bl wr W:=by rw[hW];exact r_.alloc n_ _
 have b2:Bl W W':=by rw[Ja];exact r_.alloc n_ _
 have x1:aR W M5 [.int .i64 5,.string ⟨#[]⟩,.int .i64 0,.int .i64 (k:Int)]:=by rw[hW,hM];exact aJ wr #[.int .i64 5,.string ⟨#[]⟩,.int .i64 0,.int .i64 (k:Int)] _ (by show 4<=1000;omega)
 have x2:aR W' M6 [.int .i64 0,.string ⟨#[]⟩,.int .i64 0,.int .i64 (k:Int)]:=by rw[Ja,Jd];exact aJ W #[.int .i64 0,.string ⟨#[]⟩,.int .i64 0,.int .i64 (k:Int)] _ (by show 4<=1000;omega)
 have s1:M5<W.heap.size:=b_ (x1 0 _ rfl).1;have Jb:=hb.size;have hs:=b1.size;exact⟨(hr.below b1).below b2,(hb.trans (b1.mono Jb)).trans (b2.mono o_),(ht.below b1 o_).below b2 o_,x1.below b2,x2,l_ s1 b2.size,b_ (x2 0 _ rfl).1,o_,o_,o_,fun g hg=>by have:=(World.ownsRow.lt hr g hg).2;omega,Jc⟩
theorem LB.put(h:LB w0 b l v ts M5 M6 xs k W)(i:Nat)(u:Value)(hX:W'=W.setCell ⟨M6,i,none⟩ u):LB w0 b l v ts M5 M6 (xs.set i u) k W':=by
 have t1:am (fun q=>q=M6) W W':=by rw[hX];exact(am.refl (fun q=>q=M6) W).setCell (p:=⟨M6,i,none⟩) rfl u
 have hx:=h.b6.set i u;rw[<-hX]at hx;have h1:=h.m6;have h2:=h.be.size;have h3:=h.bw;exact⟨cV h.row t1 (fun g hg=>(h.nv g hg).2),t1.below h.be h2 (fun q hq=>by omega),h.tx.tcs t1 o_ o_,h.b5.tcs h.l5 t1 h.ne,hx,l_ h.l5 t1.size,l_ h.l6 t1.size,h.m5,h.m6,h.ne,h.nv,h.bw⟩
theorem LB.below(h:LB w0 b l v ts M5 M6 xs k W)(hb:Below W.heap.size W W'):LB w0 b l v ts M5 M6 xs k W':=
 ⟨h.row.below hb,h.be.trans (hb.mono h.be.size),h.tx.below hb (by have:=h.bw;have:=h.be.size;omega),h.b5.below hb,h.b6.below hb,l_ h.l5 hb.size,l_ h.l6 hb.size,h.m5,h.m6,h.ne,h.nv,h.bw⟩
theorem LB.q5(h:LB w0 b l v ts M5 M6 xs k W)(hj:[Value.int .i64 5,.string ⟨#[]⟩,.int .i64 0,.int .i64 (k:Int)][j]? =some x):W.cell? ⟨M5,j,none⟩=some x:=(h.b5 j x hj).1
theorem LB.q6(h:LB w0 b l v ts M5 M6 xs k W)(hj:xs[j]? =some x):W.cell? ⟨M6,j,none⟩=some x/\W.frozen? ⟨M6,j,none⟩=false:=h.b6 j x hj
theorem LB.app{B9:Nat}(h:LB w0 b l v ts M5 M6 xs k W)(t:To)(hl:ts.length<=1000000)(hW:W'=W.alloc (.cells #[.int .i64 t.kind,.string t.text,.int .i64 t.num,.int .i64 (t.pl:Int)] 55))(hb:B9=W.heap.size):
  ∃v' w',(Builtin.append_ #[50,50] 50 #[v,.slice (some ⟨B9,0,none⟩) 1 1]).run prog W'=.ok v' w'/\im w0.heap.size w' v' (ts++[t])/\Below w0.heap.size w0 w'/\ia w' b l:=by
 obtain⟨v',w',h1,h2,h3⟩:=pq t h.row h.be.size hl hW hb;exact⟨v',w',h1,h2,h.be.trans h3,h.tx.below h3 h.bw⟩
end
theorem pu(l:List UInt8)(m:Nat):(List.range (m+1)).map (ai l)=(List.range m).map (ai l)++[ai l m]:=by rw[List.range_succ,List.map_append];rfl
theorem zG(l:List UInt8)(m:Nat):((List.range m).map (ai l)).length=m:=by simp
def Ck(w0:World)(l:List UInt8)(e:Ending)(w':World):Prop:=∃v K,e=.returned v/\im w0.heap.size w' v ((List.range (K+1)).map (ai l))/\ft (ai l) K/\K<=l.length/\Below w0.heap.size w0 w'
theorem rY(hx:Lx l m k)(ht:t=ai l m)(h4:4<=t.kind)(hr:im w0.heap.size w' v ((List.range m).map (ai l)++[t]))(hb:Below w0.heap.size w0 w'):Ck w0 l (.returned v) w':=
 ⟨v,m,rfl,by rw[pu,<-ht];exact hr,Br hx (by rw[<-ht];exact h4),hx.count,hb⟩
theorem LB.all5{ts:List To}(h:LB w0 b l v ts M5 M6 xs k W):W.cell? ⟨M5,0,none⟩=some (.int .i64 5)/\W.cell? ⟨M5,1,none⟩=some (.string ⟨#[]⟩)/\W.cell? ⟨M5,2,none⟩=some (.int .i64 0)/\W.cell? ⟨M5,3,none⟩=some (.int .i64 (k:Int)):=⟨h.q5 (j:=0) rfl,h.q5 (j:=1) rfl,h.q5 (j:=2) rfl,h.q5 (j:=3) rfl⟩
theorem fD(h:LB w0 b l v ((List.range m).map (ai l)) M5 M6 xs k W)(hl:((List.range m).map (ai l)).length<=1000000)(hx:Lx l m k)(ht:(⟨5,tx [],0,k⟩:To)=ai l m):
  ∃W9 B9 v9 w9,Hid (W9=W.alloc (.cells #[.int .i64 5,.string ⟨#[]⟩,.int .i64 0,.int .i64 (k:Int)] 55))/\Hid (B9=W.heap.size)/\Hid ((Builtin.append_ #[50,50] 50 #[v,.slice (some ⟨B9,0,none⟩) 1 1]).run prog W9=.ok v9 w9)/\Hid (Ck w0 l (.returned v9) w9):=by
 obtain⟨v9,w9,r9,a9,b9,x9⟩:=h.app (⟨5,tx [],0,k⟩) hl rfl rfl;exact⟨_,_,v9,w9,rfl,rfl,r9,rY hx ht (by show(4:Int)<=5;decide) a9 b9⟩
def zH(w0:World)(b:Nat)(l:List UInt8)(v iv:Value)(W:World):Prop:=∃m k:Nat,iv=.int .i64 (k:Int)/\Lx l m k/\im w0.heap.size W v ((List.range m).map (ai l))/\Below w0.heap.size w0 W/\ia W b l
theorem jf(hx:Lx l m k)(ht:t=ai l m)(h3:t.kind<=3)(hj:j=cw l (m+1))(hr:im w0.heap.size w' v ((List.range m).map (ai l)++[t]))(hb:Below w0.heap.size w0 w')(hT:ia w' b l):zH w0 b l v (.int .i64 (j:Int)) w':=
 ⟨m+1,j,rfl,by rw[hj];exact zj hx (by rw[<-ht];exact h3),by rw[pu,<-ht];exact hr,hb,hT⟩
theorem FO(c:UInt8):dy c=false->(cI c == 32)=false/\(cI c == 10)=false:=by
 intro h;unfold dy at h;simp only[decide_eq_false_iff_not,not_or]at h;unfold cI;simp only[beq_eq_false_iff_ne];constructor
 ·intro e;exact h.1 (by apply UInt8.toNat_inj.1;show c.toNat=32;omega)
 ·intro e;exact h.2 (by apply UInt8.toNat_inj.1;show c.toNat=10;omega)
theorem EY(c:UInt8):dy c=true->(cI c=32)∨(cI c=10):=by
 intro h;unfold dy at h;simp only[decide_eq_true_eq]at h;rcases h with rfl|rfl
 ·left;rfl
 ·right;rfl
theorem nE(p:UInt8->Bool)(Ja:k<=j)(hj:j<=l.length)(h:∀x (hx:x<l.length),k<=x->x<j->p l[x]=true)(he:∀hx:j<l.length,p l[j]=false):(l.drop k).takeWhile p=(l.drop k).take (j-k)/\j-k<=(l.drop k).length:=by
 refine⟨kV p (l.drop k) (j-k) (by rw[List.length_drop];omega) (fun x hx hxd=>?_) (fun hx=>?_),by rw[List.length_drop];omega⟩
 ·rw[List.getElem_drop];exact h (k+x) (by rw[List.length_drop]at hx;omega) o_ o_
 ·rw[List.length_drop]at hx;have e:k+(j-k)=j:=o_
  simp only[List.getElem_drop,e];exact he o_
theorem wF(h:k<L):(k:Int)<(L:Int):=by omega
theorem wG(h:¬k<L):¬(k:Int)<(L:Int):=by omega
theorem pv(h:j<=L)(hL:L<=20000):wrap64 ((j:Int)+1)=(j:Int)+1:=by unfold wrap64;omega
theorem rZ{p:UInt8->Bool}(h:∀x (hx:x<l.length),k<=x->x<j->p l[x]=true)(hj:j<l.length)(hp:p l[j]=true):∀x (hx:x<l.length),k<=x->x<j+1->p l[x]=true:=fun x hx h1 h2=>by
 by_cases e:x=j
 ·subst e;exact hp
 ·exact h x hx h1 o_
theorem wH(h:k<=j)(hj:j<=20000):wrap64 ((j:Int)-(k:Int))=((j-k:Nat):Int)/\((20:Int)<((j-k:Nat):Int)↔20<j-k):=by
 refine⟨by unfold wrap64;omega,o_⟩
theorem kD(h:k<L):L-(k+1)<L-k:=by omega
theorem fE(h:k<L)(hj:k<j):L-j<L-k:=by omega
theorem sd{d:Nat}(h:k<=j)(hd:d=j-k):((20:Int)<(j:Int)-(k:Int)↔20<d):=by omega
theorem nH{p:UInt8->Bool}(hk:k<l.length)(hp:p l[k]=true)(Ja:k<=j)(he:∀hx:j<l.length,p l[j]=false):k<j:=by
 rcases Nat.lt_or_ge k j with h|h
 ·exact h
 ·have e:j=k:=o_
  subst e;rw[he hk]at hp;cases hp
theorem zI(h:cG c=true):cJ c=true:=by
 unfold cJ de;rw[show smallB (cI c)=true from h];rfl
theorem dI(h:k<=j):k+(j-k)=j:=by omega
theorem Cl{x c:Int}(hx:0<=x)(Ja:x<10000000000)(hc:48<=c/\c<=57):IntKind.i64.wrap (10*x)=10*x/\IntKind.u8.wrap (c-48)=c-48/\IntKind.i64.wrap (c-48)=c-48/\IntKind.i64.wrap (10*x+(c-48))=10*x+(c-48):=by
 refine⟨?_,?_,?_,?_⟩
 ·rw[IntKind.wrap_i64];omega
 ·rw[IntKind.wrap_u8];omega
 ·rw[IntKind.wrap_i64];omega
 ·rw[IntKind.wrap_i64];omega
theorem Cm(h:aO c=true):48<=cI c/\cI c<=57:=by
 unfold aO digitB at h;simpa using h
theorem uh(Ja:k<=j)(hj:j<l.length):(l.drop k).take (j+1-k)=(l.drop k).take (j-k)++[l[j]]:=by
 have hd:j-k<(l.drop k).length:=by rw[List.length_drop];omega
 have e:j+1-k=(j-k)+1:=o_;rw[e,List.take_succ_eq_append_getElem hd];congr 1;have e2:k+(j-k)=j:=o_;simp only[List.getElem_drop,e2]
theorem take_zero:(l.drop k).take (k-k)=[]:=by simp
theorem wI{n:Nat}(hk:k<=20000)(hn:n<=2):wrap64 ((k:Int)+(n:Int))=(k:Int)+(n:Int):=by unfold wrap64;omega
def lW(l:List UInt8)(k j:Nat):Prop:=(l[k]? =some 48/\1<j-k)∨2147483647<numL ((l.drop k).take (j-k))∨((l.drop (k+(j-k))).head?.map cG).getD false=true
theorem wJ(hi:k<l.length)(hf:cG l[k]=false)(hg:aO l[k]=true)(ht:(l.drop k).takeWhile aO=(l.drop k).take (j-k))(hd:j-k<=(l.drop k).length)(h:lW l k j∨¬lW l k j):
  (lW l k j->bZ (l.drop k) k=(⟨5,tx [],0,k⟩,0))/\(¬lW l k j->bZ (l.drop k) k=(⟨2,tx [],(numL ((l.drop k).take (j-k)):Int),k⟩,j-k)):=by
 have e:=zk hi hf hg ht hd;have hb:lW l k j↔((l[k]=48/\1<j-k)∨2147483647<numL ((l.drop k).take (j-k))∨((l.drop (k+(j-k))).head?.map cG).getD false=true):=by
  unfold lW;rw[List.getElem?_eq_getElem hi];simp
 exact⟨fun h=>by rw[e,if_pos (hb.1 h)],fun h=>by rw[e,if_neg (fun h'=>h (hb.2 h'))]⟩
theorem EZ:(cI c == 48)=decide (c=48):=by
 unfold cI;apply Bool.eq_iff_iff.2;simp only[beq_iff_eq,decide_eq_true_eq];constructor
 ·intro h;apply UInt8.toNat_inj.1;show c.toNat=48;omega
 ·rintro rfl;rfl
theorem jg:(k:Int)+1<(j:Int)↔1<j-k:=by omega
theorem Cn(x:List UInt8):(tx x).toList=x:=by unfold tx;rw[ByteArray.toList_eq]
end
theorem zJ(w:World)(b c:Nat)(l:List UInt8)(hT:ia w b l)(hb:b<w.heap.size)(hl:l.length<=20000)(hc:l.length<=c):
  Calls prog 22 #[.slice (some ⟨b,0,none⟩) l.length c] w (Ck w l):=by
 obtain⟨W1,Xu⟩:=q_ (w.alloc (.cells #[] 55));obtain⟨B1,Ys⟩:=q_ w.heap.size;have Yg:Bl w W1:=by rw[Xu];exact r_.alloc n_ _
 have Yt:im w.heap.size W1 (.slice (some ⟨B1,0,none⟩) 0 0) []:=by rw[Xu,Ys];exact wD w _ n_
 have Xq:Hid (zH w b l (.slice (some ⟨B1,0,none⟩) 0 0) (.int .i64 0) W1):=⟨0,0,rfl,vD l,Yt,Yg,hT.below Yg hb⟩;have Ze:=ah Xu;have Yw:=ah Ys;have Zj:=ah hb;clear Xu Ys Yg Yt hT hb;go_enter func22,ntmps22;go_upto_region 2 with fail;rw[<-Ze.out,<-Yw.out];go_wp2;go_loopw[3,4] (fun v iv wr=>zH w b l v iv wr) (fun _ iv _=>l.length-(RowKit.intOf iv).toNat)
 case atStart=>exact Xq
 case round=>
  clear Xq Ze Yw;obtain⟨m,k,rfl,hx,hr,Xl,hT⟩:=hrel;have Jj:=ah hx;have Jm:Hid (((List.range m).map (ai l)).length<=1000000):=by show _<=_;rw[zG];exact t_ hx.count (t_ hl d_)
  by_cases hk:k<l.length
  ·obtain⟨Wa,Yo⟩:=q_ (wr.alloc (.cells #[.int .i64 5,.string ⟨#[]⟩,.int .i64 0,.int .i64 (k:Int)] 55));obtain⟨M5,Xx⟩:=q_ wr.heap.size;obtain⟨Wb,Yk⟩:=q_ (Wa.alloc (.cells #[.int .i64 0,.string ⟨#[]⟩,.int .i64 0,.int .i64 (k:Int)] 55));obtain⟨M6,Ya⟩:=q_ Wa.heap.size;have hL:=LB.new hr Xl hT Zj.out Yo Xx Yk Ya;have Zg:=hL.tx k hk;have Zs:=wF hk;have X_:=ah Yo;have Yh:=ah Yk;have Xy:=ah Xx;have Yi:=ah Ya;have Zm:=hx.lo;clear Yo Yk Xx Ya hr Xl hT hx Zm;cases hbl:dy l[k]with
   | true=>
    have HF:Hid (zH w b l _ (.int .i64 ((k+1:Nat):Int)) Wb):=⟨m,k+1,rfl,vE Jj.out hk hbl,hL.row,hL.be,hL.tx⟩;have Jt:=pv (Nat.le_of_lt hk) hl;rcases EY _ hbl with e|e;all_goals
     rw[e]at Zg;clear hL hbl e;go_upto_region 5 with fail;rw[<-X_.out,<-Xy.out];go_upto_region 6 with fail;rw[<-Yh.out,<-Yi.out];go_wp2;go_roundw
     case rel=>exact HF
     case measure=>simp[RowKit.intOf];exact kD hk
   | false=>
    obtain⟨Zq,Zo⟩:=FO _ hbl;obtain⟨Zc,Zf⟩:=vH Jj.out (fun _=>hbl);have Xc:=ah Zc;have Xo:=ah Zf;clear Zc Zf hbl;go_upto_region 5 with fail;rw[<-X_.out,<-Xy.out];go_upto_region 6 with fail;rw[<-Yh.out,<-Yi.out];clear X_ Yh Xy Yi;cases hf:cG l[k]with
    | true=>
     have Xh:smallB (cI l[k])=true:=hf;have Jp:=ah (fun (j:Nat) h1 h2=>vI (i:=k) (d:=j) hk hf h1 h2);have Yv:=ah (zI hf);clear hf;generalize hcc:cI l[k]=cc at*;clear hcc;go_wp2_with(go_at_call 45;refine(cP _ _).mono ?_;rintro e w' ⟨rfl,hw⟩;rw[hw,Xh];clear hw)
     go_loop [7] (fun jv=>∃j:Nat,jv=.int .i64 (j:Int)/\k<=j/\j<=l.length/\∀x (hx:x<l.length),k<=x->x<j->cJ l[x]=true) (fun jv=>l.length-(RowKit.intOf jv).toNat)
     case atStart=>exact⟨k,rfl,n_,Nat.le_of_lt hk,fun x _ h1 h2=>absurd h1 (Nat.not_le_of_lt h2)⟩
     case round=>
      obtain⟨j,rfl,Jh,Jw,Jy⟩:=hrel;have Jk:=ah Jy;clear Jy;by_cases hjl2:j<l.length
      ·have Zh:=hL.tx j hjl2;have Yp:=wF hjl2;cases hla:cJ l[j]with
       | true=>
        have Jv:de (cI l[j])=true:=hla;have HN:=ah (rZ Jk.out hjl2 hla);have Jt:=pv Jw hl;generalize cI l[j]=cj at*;clear hL Jp Jk;go_wp2_with(go_at_call 46;refine(iG _ _).mono ?_;rintro e w' ⟨rfl,hw⟩;rw[hw,Jv];clear hw)
        go_round
        case rel=>exact⟨j+1,by go_num,Nat.le_succ_of_le Jh,hjl2,HN⟩
        case measure=>simp[RowKit.intOf];exact kD hjl2
       | false=>
        have Jv:de (cI l[j])=false:=hla;have he:∀hx:j<l.length,cJ l[j]=false:=fun _=>hla;generalize cI l[j]=cj at*;obtain⟨Jt,Xb⟩:=nE cJ Jh Jw Jk.out he;have Jz:=Jp.out (j-k) Jt Xb;have Jo:=nH (p:=cJ) hk Yv.out Jh he;obtain⟨Yn,Jq⟩:=wH Jh (t_ Jw hl);have Xa:=lr b l.length c k j Jh Jw hc;obtain⟨Wc,Jn⟩:=q_ (Wb.setCell ⟨M6,0,none⟩ (.int .i64 1));have Ja:=hL.put 0 (.int .i64 1) Jn;simp only[List.set_cons_zero,List.set_cons_succ]at Ja;have a0:=(hL.q6 (j:=0) rfl).1;have z0:=(hL.q6 (j:=0) rfl).2;have Xg:=po Ja.tx (if c=k then 0 else k) (c-k) k (j-k) (by have:=dI Jh;rw[this];exact Jw) (fun _=>if_neg (fun e=>absurd (e ▸ hc) (Nat.not_le_of_lt hk)));obtain⟨ts,Ju⟩:=q_ (tx ((l.drop k).take (j-k)));rw[<-Ju]at Xg;obtain⟨Wd,J_⟩:=q_ (Wc.setCell ⟨M6,1,none⟩ (.string ts));have Ji:=Ja.put 1 (.string ts) J_;simp only[List.set_cons_zero,List.set_cons_succ]at Ji;have a1:=(Ja.q6 (j:=1) rfl).1;have z1:=(Ja.q6 (j:=1) rfl).2;have Xe:=ah Jn;have Xj:=ah J_;have Xi:=ah Ju;have Jx:=ah Jz;obtain⟨d,ed⟩:=q_ (j-k);rw[<-ed]at Yn Jq Xa Xg;have Xd:=ah ed;generalize (if c=k then 0 else k)=oo at*;generalize c-k=cc2 at*;clear Jn J_ Ju Jz Jt Xb hL ed he Ja Jp;go_upto_region 13 with(go_at_call 46;refine(iG _ _).mono ?_;rintro e w' ⟨rfl,hw⟩;rw[hw,Jv];clear hw);rw[<-Xe.out];go_upto_region 14 with fail;rw[<-Xj.out];clear a0 z0 a1 z1 Xa Xg;by_cases h20:20<d
        ·have Xf:=(sd Jh Xd).2 h20;have Jl:bZ (l.drop k) k=(⟨5,tx [],0,k⟩,0):=by rw[Jx.out,if_pos (by rw[<-Xd.out];exact h20)]
         have Je:Hid ((⟨5,tx [],0,k⟩:To)=ai l m):=by show _=_;rw[Xc.out,Jl]
         clear Jl Jq h20;obtain⟨y0,y1,y2,y3⟩:=Ji.all5;obtain⟨W9,B9,v9,w9,Jb,Jd,Jc,HF⟩:=fD Ji Jm.out Jj.out Je;go_wp2_with(at_builtin;rw[<-Jb.out,<-Jd.out];refine ao rfl _ _ _ rfl _ _ v9 w9 rfl rfl Jc.out ?_);go_ret;exact HF
        ·have Xf:¬(20:Int)<(j:Int)-(k:Int):=fun e=>h20 ((sd Jh Xd).1 e);have Jl:bZ (l.drop k) k=(⟨1,ts,0,k⟩,j-k):=by rw[Jx.out,if_neg (by rw[<-Xd.out];exact h20),Xi]
         have Je:Hid ((⟨1,ts,0,k⟩:To)=ai l m):=by show _=_;rw[Xc.out,Jl]
         have Xn:Hid (j=cw l (m+1)):=by show _=_;rw[Xo.out,Jl];exact(dI Jh).symm
         clear Jl Jq h20;have y0:=(Ji.q6 (j:=0) rfl).1;have y1:=(Ji.q6 (j:=1) rfl).1;have y2:=(Ji.q6 (j:=2) rfl).1;have y3:=(Ji.q6 (j:=3) rfl).1;obtain⟨W9,Jg⟩:=q_ (Wd.alloc (.cells #[.int .i64 1,.string ts,.int .i64 0,.int .i64 (k:Int)] 55));obtain⟨B9,Jf⟩:=q_ Wd.heap.size;obtain⟨v9,w9,r9,a9,b9,x9⟩:=Ji.app (⟨1,ts,0,k⟩) Jm.out Jg Jf;have Jb:=ah Jg;have Jd:=ah Jf;have Jc:=ah r9;have HF:=ah (jf (j:=j) Jj.out (Je) (by show(1:Int)<=3;decide) (Xn) a9 b9 x9);clear Jg Jf r9 a9 b9 x9;go_wp2_with(at_builtin;rw[<-Jb.out,<-Jd.out];refine ao rfl _ _ _ rfl _ _ v9 w9 rfl rfl Jc.out ?_);go_roundw
         case rel=>exact HF
         case measure=>simp only[Array.getD,RowKit.intOf]at*;simp[RowKit.intOf];exact fE hk (Jo)
      ·have Yp:=wG hjl2;have he:∀hx:j<l.length,cJ l[j]=false:=fun hx=>absurd hx hjl2;obtain⟨Jt,Xb⟩:=nE cJ Jh Jw Jk.out he;have Jz:=Jp.out (j-k) Jt Xb;have Jo:=nH (p:=cJ) hk Yv.out Jh he;obtain⟨Yn,Jq⟩:=wH Jh (t_ Jw hl);have Xa:=lr b l.length c k j Jh Jw hc;obtain⟨Wc,Jn⟩:=q_ (Wb.setCell ⟨M6,0,none⟩ (.int .i64 1));have Ja:=hL.put 0 (.int .i64 1) Jn;simp only[List.set_cons_zero,List.set_cons_succ]at Ja;have a0:=(hL.q6 (j:=0) rfl).1;have z0:=(hL.q6 (j:=0) rfl).2;have Xg:=po Ja.tx (if c=k then 0 else k) (c-k) k (j-k) (by have:=dI Jh;rw[this];exact Jw) (fun _=>if_neg (fun e=>absurd (e ▸ hc) (Nat.not_le_of_lt hk)));obtain⟨ts,Ju⟩:=q_ (tx ((l.drop k).take (j-k)));rw[<-Ju]at Xg;obtain⟨Wd,J_⟩:=q_ (Wc.setCell ⟨M6,1,none⟩ (.string ts));have Ji:=Ja.put 1 (.string ts) J_;simp only[List.set_cons_zero,List.set_cons_succ]at Ji;have a1:=(Ja.q6 (j:=1) rfl).1;have z1:=(Ja.q6 (j:=1) rfl).2;have Xe:=ah Jn;have Xj:=ah J_;have Xi:=ah Ju;have Jx:=ah Jz;obtain⟨d,ed⟩:=q_ (j-k);rw[<-ed]at Yn Jq Xa Xg;have Xd:=ah ed;generalize (if c=k then 0 else k)=oo at*;generalize c-k=cc2 at*;clear Jn J_ Ju Jz Jt Xb hL ed he Ja Jp;go_upto_region 13 with fail;rw[<-Xe.out];go_upto_region 14 with fail;rw[<-Xj.out];clear a0 z0 a1 z1 Xa Xg;by_cases h20:20<d
       ·have Xf:=(sd Jh Xd).2 h20;have Jl:bZ (l.drop k) k=(⟨5,tx [],0,k⟩,0):=by rw[Jx.out,if_pos (by rw[<-Xd.out];exact h20)]
        have Je:Hid ((⟨5,tx [],0,k⟩:To)=ai l m):=by show _=_;rw[Xc.out,Jl]
        clear Jl Jq h20;obtain⟨y0,y1,y2,y3⟩:=Ji.all5;obtain⟨W9,B9,v9,w9,Jb,Jd,Jc,HF⟩:=fD Ji Jm.out Jj.out Je;go_wp2_with(at_builtin;rw[<-Jb.out,<-Jd.out];refine ao rfl _ _ _ rfl _ _ v9 w9 rfl rfl Jc.out ?_);go_ret;exact HF
       ·have Xf:¬(20:Int)<(j:Int)-(k:Int):=fun e=>h20 ((sd Jh Xd).1 e);have Jl:bZ (l.drop k) k=(⟨1,ts,0,k⟩,j-k):=by rw[Jx.out,if_neg (by rw[<-Xd.out];exact h20),Xi]
        have Je:Hid ((⟨1,ts,0,k⟩:To)=ai l m):=by show _=_;rw[Xc.out,Jl]
        have Xn:Hid (j=cw l (m+1)):=by show _=_;rw[Xo.out,Jl];exact(dI Jh).symm
        clear Jl Jq h20;have y0:=(Ji.q6 (j:=0) rfl).1;have y1:=(Ji.q6 (j:=1) rfl).1;have y2:=(Ji.q6 (j:=2) rfl).1;have y3:=(Ji.q6 (j:=3) rfl).1;obtain⟨W9,Jg⟩:=q_ (Wd.alloc (.cells #[.int .i64 1,.string ts,.int .i64 0,.int .i64 (k:Int)] 55));obtain⟨B9,Jf⟩:=q_ Wd.heap.size;obtain⟨v9,w9,r9,a9,b9,x9⟩:=Ji.app (⟨1,ts,0,k⟩) Jm.out Jg Jf;have Jb:=ah Jg;have Jd:=ah Jf;have Jc:=ah r9;have HF:=ah (jf (j:=j) Jj.out (Je) (by show(1:Int)<=3;decide) (Xn) a9 b9 x9);clear Jg Jf r9 a9 b9 x9;go_wp2_with(at_builtin;rw[<-Jb.out,<-Jd.out];refine ao rfl _ _ _ rfl _ _ v9 w9 rfl rfl Jc.out ?_);go_roundw
        case rel=>exact HF
        case measure=>simp only[Array.getD,RowKit.intOf]at*;simp[RowKit.intOf];exact fE hk (Jo)
    | false=>
     cases hg:aO l[k]with
     | true=>
      have Xh:smallB (cI l[k])=false:=hf;have Jv:digitB (cI l[k])=true:=hg;have Jp:=ah fun j (h1:(l.drop k).takeWhile aO=(l.drop k).take (j-k)) (h2:j-k<=(l.drop k).length)=>wJ hk hf hg h1 h2 (Classical.em _);have Zb:=ah hg;have HZ:Hid ((cI l[k] == 48)=decide (l[k]? =some 48)):=by show _=_;rw[EZ,List.getElem?_eq_getElem hk];simp
      have Zd:Hid (jt ((l.drop k).take (k-k)) 0):=by show jt _ _;rw[take_zero];exact vJ
      have Yy:=ah hL;clear hf hg;generalize hcc:cI l[k]=cc at*;have Yu:=ah hcc;clear hcc hL;go_wp2_with(first|(go_at_call 45;refine(cP _ _).mono ?_;rintro e w' ⟨rfl,hw⟩;rw[hw,Xh];clear hw)|(go_at_call 47;refine(iq _ _).mono ?_;rintro e w' ⟨rfl,hw⟩;rw[hw,Jv];clear hw));clear Zg;go_loopw[7] (fun jv wv=>∃(j:Nat) (x:Int),jv=.int .i64 (j:Int)/\k<=j/\j<=l.length/\(∀y (hy:y<l.length),k<=y->y<j->aO l[y]=true)/\jt ((l.drop k).take (j-k)) x/\LB w b l u3 ((List.range m).map (ai l)) M5 M6 [.int .i64 0,.string ⟨#[]⟩,.int .i64 x,.int .i64 (k:Int)] k wv) (fun jv _=>l.length-(RowKit.intOf jv).toNat)
      case atStart=>exact⟨k,0,rfl,n_,Nat.le_of_lt hk,fun x _ h1 h2=>absurd h1 (Nat.not_le_of_lt h2),Zd,Yy⟩
      case round=>
       clear Yy Zd Xh Jv;obtain⟨j,x,rfl,Jh,Jw,Jy,Js,Jr⟩:=hrel;have Jk:=ah Jy;clear Jy;obtain⟨Ym,Yx⟩:=zo Js;by_cases hjl2:j<l.length
       ·have Zh:=Jr.tx j hjl2;have Yp:=wF hjl2;cases hla:aO l[j]with
        | true=>
         have Jv:digitB (cI l[j])=true:=hla;have HN:=ah (rZ Jk.out hjl2 hla);have Jt:=pv Jw hl;obtain hbd:=Cm hla;have c2:=(Jr.q6 (j:=2) rfl).1;have f2:=(Jr.q6 (j:=2) rfl).2;have Xr:=uh Jh hjl2;by_cases hx:x<10000000000
         ·have Yj:Hid (jt ((l.drop k).take (j+1-k)) (10*x+(cI l[j]-48))):=by show jt _ _;rw[Xr];exact tf Js hla hx
          obtain⟨n1,n2,n3,n4⟩:=Cl Ym hx hbd;generalize cI l[j]=cj at*;obtain⟨Wn,Yc⟩:=q_ (wr.setCell ⟨M6,2,none⟩ (.int .i64 (10*x+(cj-48))));have Xz:=Jr.put 2 (.int .i64 (10*x+(cj-48))) Yc;simp only[List.set_cons_zero,List.set_cons_succ]at Xz;have Yd:=ah (Xz.below (W':=Wn.drew) (r_.drew));have Zn:=ah Yc;clear Yc Xz Jr Js Jp Jk Xr hla Ym Yx hbd;go_upto_region 19 with(go_at_call 47;refine(iq _ _).mono ?_;rintro e w' ⟨rfl,hw⟩;rw[hw,Jv];clear hw);go_region;rw[<-Zn.out];go_wp2;go_roundw
          case rel=>exact⟨j+1,_,by go_num,Nat.le_succ_of_le Jh,hjl2,HN,Yj,Yd⟩
          case measure=>simp[RowKit.intOf];exact kD hjl2
         ·have Yj:Hid (jt ((l.drop k).take (j+1-k)) x):=by show jt _ _;rw[Xr];exact tg Js hx
          have Yd:=ah Jr;generalize cI l[j]=cj at*;clear Jr Js Jp Jk Xr hla Ym Yx hbd;go_wp2_with(go_at_call 47;refine(iq _ _).mono ?_;rintro e w' ⟨rfl,hw⟩;rw[hw,Jv];clear hw);go_roundw
          case rel=>exact⟨j+1,x,by go_num,Nat.le_succ_of_le Jh,hjl2,HN,Yj,Yd⟩
          case measure=>simp[RowKit.intOf];exact kD hjl2
        | false=>
         have Jv:digitB (cI l[j])=false:=hla;have he:∀hx:j<l.length,aO l[j]=false:=fun _=>hla;generalize hcjj:cI l[j]=cj at*;have Xw:=ah hcjj;clear hcjj;obtain⟨Jt,Xb⟩:=nE aO Jh Jw Jk.out he;have Jz:=Jp.out j Jt Xb;have Jo:=nH (p:=aO) hk Zb.out Jh he;obtain⟨Xm,Xk⟩:=oP Js;obtain⟨Wc,Jn⟩:=q_ (wr.setCell ⟨M6,0,none⟩ (.int .i64 2));have Ja:=Jr.put 0 (.int .i64 2) Jn;simp only[List.set_cons_zero,List.set_cons_succ]at Ja;have a0:=(Jr.q6 (j:=0) rfl).1;have z0:=(Jr.q6 (j:=0) rfl).2;have y2:=(Ja.q6 (j:=2) rfl).1;have Yr:Wc.cell? ⟨b,k,none⟩=some (.int .u8 cc):=(Ja.tx k hk).trans (by rw[Yu.out]);have Zl:=pv (Nat.le_of_lt hk) hl;have Xe:=ah Jn;have Jx:=ah Jz;have Xp:=ah Xm;have Ye:=ah Xk;have HB:Hid (lW l k j->(⟨5,tx [],0,k⟩:To)=ai l m):=fun h=>by show _=_;rw[Xc.out,Jx.out.1 h]
         have HG:Hid (¬lW l k j->x<=2147483647->(⟨2,tx [],x,k⟩:To)=ai l m/\j=cw l (m+1)):=fun h hx=>by
          rw[Xc.out,Xo.out,Jx.out.2 h,Ye.out hx];exact⟨rfl,(dI Jh).symm⟩
         clear Jz Jt Xb Jn Jr Xm Xk Jp;go_upto_region 22 with(go_at_call 47;refine(iq _ _).mono ?_;rintro e w' ⟨rfl,hw⟩;rw[hw,Jv];clear hw);rw[<-Xe.out];clear a0 z0;by_cases hz:l[k]? =some 48/\1<j-k
         ·have g1:(cc == 48)=true:=by rw[HZ.out];simp[hz.1]
          have g2:(k:Int)+1<(j:Int):=jg.2 hz.2;have Je:=ah (HB.out (.inl hz));clear HB HG hz;obtain⟨y0,y1,y2,y3⟩:=Ja.all5;obtain⟨W9,B9,v9,w9,Jb,Jd,Jc,HF⟩:=fD Ja Jm.out Jj.out Je;go_wp2_with(at_builtin;rw[<-Jb.out,<-Jd.out];refine ao rfl _ _ _ rfl _ _ v9 w9 rfl rfl Jc.out ?_);go_ret;exact HF
         ·by_cases hbg:2147483647<x
          ·have Je:=ah (HB.out (.inr (.inl (Xp.out.1 hbg))));clear HB HG;by_cases h4:l[k]? =some 48
           ·have g1:(cc == 48)=true:=by rw[HZ.out];simp[h4]
            have g2:¬(k:Int)+1<(j:Int):=fun e=>hz ⟨h4,jg.1 e⟩;obtain⟨y0,y1,y2,y3⟩:=Ja.all5;obtain⟨W9,B9,v9,w9,Jb,Jd,Jc,HF⟩:=fD Ja Jm.out Jj.out Je;go_wp2_with(at_builtin;rw[<-Jb.out,<-Jd.out];refine ao rfl _ _ _ rfl _ _ v9 w9 rfl rfl Jc.out ?_)
            go_ret;exact HF
           ·have g1:(cc == 48)=false:=by rw[HZ.out];simp[h4]
            obtain⟨y0,y1,y2,y3⟩:=Ja.all5;obtain⟨W9,B9,v9,w9,Jb,Jd,Jc,HF⟩:=fD Ja Jm.out Jj.out Je;go_wp2_with(at_builtin;rw[<-Jb.out,<-Jd.out];refine ao rfl _ _ _ rfl _ _ v9 w9 rfl rfl Jc.out ?_);go_ret;exact HF
          ·have Zk:Wc.cell? ⟨b,j,none⟩=some (.int .u8 cj):=(Ja.tx j hjl2).trans (by rw[Xw.out]);cases hs3:smallB cj with
           | true=>
            have Je:=ah (HB.out (.inr (.inr (by rw[dI Jh,List.head?_drop,List.getElem?_eq_getElem hjl2];show cG l[j]=true;unfold cG;rw[Xw.out];exact hs3))));clear HB HG;by_cases h4:l[k]? =some 48
            ·have g1:(cc == 48)=true:=by rw[HZ.out];simp[h4]
             have g2:¬(k:Int)+1<(j:Int):=fun e=>hz ⟨h4,jg.1 e⟩;obtain⟨y0,y1,y2,y3⟩:=Ja.all5;obtain⟨W9,B9,v9,w9,Jb,Jd,Jc,HF⟩:=fD Ja Jm.out Jj.out Je;go_upto_region 23 with(go_at_call 45;refine(cP _ _).mono ?_;rintro e w' ⟨rfl,hw⟩;rw[hw,hs3];clear hw);go_wp2_with(at_builtin;rw[<-Jb.out,<-Jd.out];refine ao rfl _ _ _ rfl _ _ v9 w9 rfl rfl Jc.out ?_)
             go_ret;exact HF
            ·have g1:(cc == 48)=false:=by rw[HZ.out];simp[h4]
             obtain⟨y0,y1,y2,y3⟩:=Ja.all5;obtain⟨W9,B9,v9,w9,Jb,Jd,Jc,HF⟩:=fD Ja Jm.out Jj.out Je;go_upto_region 23 with(go_at_call 45;refine(cP _ _).mono ?_;rintro e w' ⟨rfl,hw⟩;rw[hw,hs3];clear hw);go_wp2_with(at_builtin;rw[<-Jb.out,<-Jd.out];refine ao rfl _ _ _ rfl _ _ v9 w9 rfl rfl Jc.out ?_);go_ret;exact HF
           | false=>
            have Je:=ah (HG.out (by
             rintro(hh|hh|hh)
             ·exact hz hh
             ·exact hbg (Xp.out.2 hh)
             ·rw[dI Jh,List.head?_drop,List.getElem?_eq_getElem hjl2]at hh;have:cG l[j]=true:=hh
              unfold cG at this;rw[Xw.out,hs3]at this;cases this) (Int.not_lt.1 hbg))
            clear HB HG;by_cases h4:l[k]? =some 48
            ·have g1:(cc == 48)=true:=by rw[HZ.out];simp[h4]
             have g2:¬(k:Int)+1<(j:Int):=fun e=>hz ⟨h4,jg.1 e⟩;have y0:=(Ja.q6 (j:=0) rfl).1;have y1:=(Ja.q6 (j:=1) rfl).1;have Yq:=(Ja.q6 (j:=2) rfl).1;have y3:=(Ja.q6 (j:=3) rfl).1;obtain⟨W9,Jg⟩:=q_ (Wc.alloc (.cells #[.int .i64 2,.string ⟨#[]⟩,.int .i64 x,.int .i64 (k:Int)] 55));obtain⟨B9,Jf⟩:=q_ Wc.heap.size;obtain⟨v9,w9,r9,a9,b9,x9⟩:=Ja.app (⟨2,tx [],x,k⟩) Jm.out Jg Jf;have Jb:=ah Jg;have Jd:=ah Jf;have Jc:=ah r9;have HF:=ah (jf (j:=j) Jj.out (Je.out.1) (by show(2:Int)<=3;decide) (Je.out.2) a9 b9 x9);clear Jg Jf r9 a9 b9 x9;go_upto_region 29 with(go_at_call 45;refine(cP _ _).mono ?_;rintro e w' ⟨rfl,hw⟩;rw[hw,hs3];clear hw);go_wp2_with(at_builtin;rw[<-Jb.out,<-Jd.out];refine ao rfl _ _ _ rfl _ _ v9 w9 rfl rfl Jc.out ?_)
             go_roundw
             case rel=>exact HF
             case measure=>simp only[Array.getD,RowKit.intOf]at*;simp[RowKit.intOf];exact fE hk (Jo)
            ·have g1:(cc == 48)=false:=by rw[HZ.out];simp[h4]
             have y0:=(Ja.q6 (j:=0) rfl).1;have y1:=(Ja.q6 (j:=1) rfl).1;have Yq:=(Ja.q6 (j:=2) rfl).1;have y3:=(Ja.q6 (j:=3) rfl).1;obtain⟨W9,Jg⟩:=q_ (Wc.alloc (.cells #[.int .i64 2,.string ⟨#[]⟩,.int .i64 x,.int .i64 (k:Int)] 55));obtain⟨B9,Jf⟩:=q_ Wc.heap.size;obtain⟨v9,w9,r9,a9,b9,x9⟩:=Ja.app (⟨2,tx [],x,k⟩) Jm.out Jg Jf;have Jb:=ah Jg;have Jd:=ah Jf;have Jc:=ah r9;have HF:=ah (jf (j:=j) Jj.out (Je.out.1) (by show(2:Int)<=3;decide) (Je.out.2) a9 b9 x9);clear Jg Jf r9 a9 b9 x9;go_upto_region 29 with(go_at_call 45;refine(cP _ _).mono ?_;rintro e w' ⟨rfl,hw⟩;rw[hw,hs3];clear hw);go_wp2_with(at_builtin;rw[<-Jb.out,<-Jd.out];refine ao rfl _ _ _ rfl _ _ v9 w9 rfl rfl Jc.out ?_);go_roundw
             case rel=>exact HF
             case measure=>simp only[Array.getD,RowKit.intOf]at*;simp[RowKit.intOf];exact fE hk (Jo)
       ·have Yp:=wG hjl2;have he:∀hx:j<l.length,aO l[j]=false:=fun hx=>absurd hx hjl2;obtain⟨Jt,Xb⟩:=nE aO Jh Jw Jk.out he;have Jz:=Jp.out j Jt Xb;have Jo:=nH (p:=aO) hk Zb.out Jh he;obtain⟨Xm,Xk⟩:=oP Js;obtain⟨Wc,Jn⟩:=q_ (wr.setCell ⟨M6,0,none⟩ (.int .i64 2));have Ja:=Jr.put 0 (.int .i64 2) Jn;simp only[List.set_cons_zero,List.set_cons_succ]at Ja;have a0:=(Jr.q6 (j:=0) rfl).1;have z0:=(Jr.q6 (j:=0) rfl).2;have y2:=(Ja.q6 (j:=2) rfl).1;have Yr:Wc.cell? ⟨b,k,none⟩=some (.int .u8 cc):=(Ja.tx k hk).trans (by rw[Yu.out]);have Zl:=pv (Nat.le_of_lt hk) hl;have Xe:=ah Jn;have Jx:=ah Jz;have Xp:=ah Xm;have Ye:=ah Xk;have HB:Hid (lW l k j->(⟨5,tx [],0,k⟩:To)=ai l m):=fun h=>by show _=_;rw[Xc.out,Jx.out.1 h]
        have HG:Hid (¬lW l k j->x<=2147483647->(⟨2,tx [],x,k⟩:To)=ai l m/\j=cw l (m+1)):=fun h hx=>by
         rw[Xc.out,Xo.out,Jx.out.2 h,Ye.out hx];exact⟨rfl,(dI Jh).symm⟩
        clear Jz Jt Xb Jn Jr Xm Xk Jp;go_upto_region 22 with fail;rw[<-Xe.out];clear a0 z0;by_cases hz:l[k]? =some 48/\1<j-k
        ·have g1:(cc == 48)=true:=by rw[HZ.out];simp[hz.1]
         have g2:(k:Int)+1<(j:Int):=jg.2 hz.2;have Je:=ah (HB.out (.inl hz));clear HB HG hz;obtain⟨y0,y1,y2,y3⟩:=Ja.all5;obtain⟨W9,B9,v9,w9,Jb,Jd,Jc,HF⟩:=fD Ja Jm.out Jj.out Je;go_wp2_with(at_builtin;rw[<-Jb.out,<-Jd.out];refine ao rfl _ _ _ rfl _ _ v9 w9 rfl rfl Jc.out ?_);go_ret;exact HF
        ·by_cases hbg:2147483647<x
         ·have Je:=ah (HB.out (.inr (.inl (Xp.out.1 hbg))));clear HB HG;by_cases h4:l[k]? =some 48
          ·have g1:(cc == 48)=true:=by rw[HZ.out];simp[h4]
           have g2:¬(k:Int)+1<(j:Int):=fun e=>hz ⟨h4,jg.1 e⟩;obtain⟨y0,y1,y2,y3⟩:=Ja.all5;obtain⟨W9,B9,v9,w9,Jb,Jd,Jc,HF⟩:=fD Ja Jm.out Jj.out Je;go_wp2_with(at_builtin;rw[<-Jb.out,<-Jd.out];refine ao rfl _ _ _ rfl _ _ v9 w9 rfl rfl Jc.out ?_)
           go_ret;exact HF
          ·have g1:(cc == 48)=false:=by rw[HZ.out];simp[h4]
           obtain⟨y0,y1,y2,y3⟩:=Ja.all5;obtain⟨W9,B9,v9,w9,Jb,Jd,Jc,HF⟩:=fD Ja Jm.out Jj.out Je;go_wp2_with(at_builtin;rw[<-Jb.out,<-Jd.out];refine ao rfl _ _ _ rfl _ _ v9 w9 rfl rfl Jc.out ?_);go_ret;exact HF
         ·have Je:=ah (HG.out (by
           rintro(hh|hh|hh)
           ·exact hz hh
           ·exact hbg (Xp.out.2 hh)
           ·rw[dI Jh,List.head?_drop,List.getElem?_eq_none (Nat.le_of_not_lt hjl2)]at hh;cases hh) (Int.not_lt.1 hbg))
          clear HB HG;by_cases h4:l[k]? =some 48
          ·have g1:(cc == 48)=true:=by rw[HZ.out];simp[h4]
           have g2:¬(k:Int)+1<(j:Int):=fun e=>hz ⟨h4,jg.1 e⟩;have y0:=(Ja.q6 (j:=0) rfl).1;have y1:=(Ja.q6 (j:=1) rfl).1;have Yq:=(Ja.q6 (j:=2) rfl).1;have y3:=(Ja.q6 (j:=3) rfl).1;obtain⟨W9,Jg⟩:=q_ (Wc.alloc (.cells #[.int .i64 2,.string ⟨#[]⟩,.int .i64 x,.int .i64 (k:Int)] 55));obtain⟨B9,Jf⟩:=q_ Wc.heap.size;obtain⟨v9,w9,r9,a9,b9,x9⟩:=Ja.app (⟨2,tx [],x,k⟩) Jm.out Jg Jf;have Jb:=ah Jg;have Jd:=ah Jf;have Jc:=ah r9;have HF:=ah (jf (j:=j) Jj.out (Je.out.1) (by show(2:Int)<=3;decide) (Je.out.2) a9 b9 x9);clear Jg Jf r9 a9 b9 x9;go_wp2_with(at_builtin;rw[<-Jb.out,<-Jd.out];refine ao rfl _ _ _ rfl _ _ v9 w9 rfl rfl Jc.out ?_)
           go_roundw
           case rel=>exact HF
           case measure=>simp only[Array.getD,RowKit.intOf]at*;simp[RowKit.intOf];exact fE hk (Jo)
          ·have g1:(cc == 48)=false:=by rw[HZ.out];simp[h4]
           have y0:=(Ja.q6 (j:=0) rfl).1;have y1:=(Ja.q6 (j:=1) rfl).1;have Yq:=(Ja.q6 (j:=2) rfl).1;have y3:=(Ja.q6 (j:=3) rfl).1;obtain⟨W9,Jg⟩:=q_ (Wc.alloc (.cells #[.int .i64 2,.string ⟨#[]⟩,.int .i64 x,.int .i64 (k:Int)] 55));obtain⟨B9,Jf⟩:=q_ Wc.heap.size;obtain⟨v9,w9,r9,a9,b9,x9⟩:=Ja.app (⟨2,tx [],x,k⟩) Jm.out Jg Jf;have Jb:=ah Jg;have Jd:=ah Jf;have Jc:=ah r9;have HF:=ah (jf (j:=j) Jj.out (Je.out.1) (by show(2:Int)<=3;decide) (Je.out.2) a9 b9 x9);clear Jg Jf r9 a9 b9 x9;go_wp2_with(at_builtin;rw[<-Jb.out,<-Jd.out];refine ao rfl _ _ _ rfl _ _ v9 w9 rfl rfl Jc.out ?_);go_roundw
           case rel=>exact HF
           case measure=>simp only[Array.getD,RowKit.intOf]at*;simp[RowKit.intOf];exact fE hk (Jo)
     | false=>
      have Xh:smallB (cI l[k])=false:=hf;have Jv:digitB (cI l[k])=false:=hg;have Jp:=ah (zl hk hf hg);clear hf hg;obtain⟨Wc,Jn⟩:=q_ (Wb.setCell ⟨M6,0,none⟩ (.int .i64 3));have Ja:=hL.put 0 (.int .i64 3) Jn;simp only[List.set_cons_zero,List.set_cons_succ]at Ja;have a0:=(hL.q6 (j:=0) rfl).1;have z0:=(hL.q6 (j:=0) rfl).2;have Yz:=ah (qB Wc b c l k Ja.tx (l_ Ja.bw Ja.be.size) hk (t_ hl d_) hc);have Xe:=ah Jn;generalize hcc:cI l[k]=cc at*;clear hcc Jn hL;go_upto_region 25 with(first|(go_at_call 45;refine(cP _ _).mono ?_;rintro e w' ⟨rfl,hw⟩;rw[hw,Xh];clear hw)|(go_at_call 47;refine(iq _ _).mono ?_;rintro e w' ⟨rfl,hw⟩;rw[hw,Jv];clear hw));rw[<-Xe.out];clear a0 z0;go_wp2_with fail;refine Yz.out.mono ?_;rintro e w5 ⟨rfl,Za⟩;have Xs:=Ja.below Za;obtain⟨ts,Ju⟩:=q_ (tx (bD (l.drop k)));rw[<-Ju];obtain⟨Wd,J_⟩:=q_ (w5.setCell ⟨M6,1,none⟩ (.string ts));have Ji:=Xs.put 1 (.string ts) J_;simp only[List.set_cons_zero,List.set_cons_succ]at Ji;have a1:=(Xs.q6 (j:=1) rfl).1;have z1:=(Xs.q6 (j:=1) rfl).2;have y1:=(Ji.q6 (j:=1) rfl).1;obtain⟨ln,Xv⟩:=q_ ((bD (l.drop k)).length);have Zp:ts.size=ln:=by rw[Ju,tx_size,Xv]
      have Yb:ln<=2:=by rw[Xv];exact(jr _).2
      have Zr:=wI (k:=k) (t_ (Nat.le_of_lt hk) hl) Yb;have Xt:(ts.toList == [])=decide (bD (l.drop k)=[]):=by
       rw[Ju,Cn];apply Bool.eq_iff_iff.2;simp
      have Xj:=ah J_;have Xi:=ah Ju;have Y_:=ah Xv;clear J_ Ju Ja Xs Za Yz Xv;go_upto_region 26 with fail;rw[<-Xj.out];clear a1 z1;by_cases hs:bD (l.drop k)=[]
      ·have Yf:(ts.toList == [])=true:=by rw[Xt];simp[hs]
       have Jl:bZ (l.drop k) k=(⟨5,tx [],0,k⟩,0):=by rw[Jp.out,if_pos hs]
       have Je:Hid ((⟨5,tx [],0,k⟩:To)=ai l m):=by show _=_;rw[Xc.out,Jl]
       clear Jl Xt hs Jp;obtain⟨y0,Zi,y2,y3⟩:=Ji.all5;obtain⟨W9,B9,v9,w9,Jb,Jd,Jc,HF⟩:=fD Ji Jm.out Jj.out Je;go_wp2_with(at_builtin;rw[<-Jb.out,<-Jd.out];refine ao rfl _ _ _ rfl _ _ v9 w9 rfl rfl Jc.out ?_);go_ret;exact HF
      ·have Yf:(ts.toList == [])=false:=by rw[Xt];simp[hs]
       have Jl:bZ (l.drop k) k=(⟨3,ts,0,k⟩,ln):=by rw[Jp.out,if_neg hs,Xi.out,Y_.out]
       have Je:Hid ((⟨3,ts,0,k⟩:To)=ai l m):=by show _=_;rw[Xc.out,Jl]
       have Xn:Hid (k+ln=cw l (m+1)):=by show _=_;rw[Xo.out,Jl]
       have Yl:k<k+ln:=by
        have:ln≠0:=fun e=>hs (List.eq_nil_of_length_eq_zero (by rw[<-Y_.out];exact e))
        omega
       clear Jl Xt hs Jp;have y0:=(Ji.q6 (j:=0) rfl).1;have Zi:=(Ji.q6 (j:=1) rfl).1;have y2:=(Ji.q6 (j:=2) rfl).1;have y3:=(Ji.q6 (j:=3) rfl).1;obtain⟨W9,Jg⟩:=q_ (Wd.alloc (.cells #[.int .i64 3,.string ts,.int .i64 0,.int .i64 (k:Int)] 55));obtain⟨B9,Jf⟩:=q_ Wd.heap.size;obtain⟨v9,w9,r9,a9,b9,x9⟩:=Ji.app (⟨3,ts,0,k⟩) Jm.out Jg Jf;have Jb:=ah Jg;have Jd:=ah Jf;have Jc:=ah r9;have HF:=ah (jf (j:=k+ln) Jj.out (Je) (by show(3:Int)<=3;decide) (Xn) a9 b9 x9);clear Jg Jf r9 a9 b9 x9;go_wp2_with(at_builtin;rw[<-Jb.out,<-Jd.out];refine ao rfl _ _ _ rfl _ _ v9 w9 rfl rfl Jc.out ?_);go_roundw
       case rel=>(have hF:=HF.out;push_cast at hF;exact hF)
       case measure=>simp only[Array.getD,RowKit.intOf]at*;simp[RowKit.intOf];exact fE hk (Yl)
  ·obtain rfl:k=l.length:=Nat.le_antisymm hx.le (Nat.le_of_not_lt hk);skip
   have ht:=Bq Jj;obtain⟨W9,Jg⟩:=q_ (wr.alloc (.cells #[.int .i64 4,.string ⟨#[]⟩,.int .i64 0,.int .i64 (l.length:Int)] 55));obtain⟨B9,Jf⟩:=q_ wr.heap.size;obtain⟨v9,w9,r9,a9,b9⟩:=pq ⟨4,tx [],0,l.length⟩ hr Xl.size Jm.out Jg Jf;have HF:=ah (rY Jj.out ht.symm (by show(4:Int)<=4;decide) a9 (Xl.trans b9));have Jb:=ah Jg;have Jd:=ah Jf;have Jc:=ah r9;clear Jg Jf r9 a9 b9 ht hr Xl hT hx hk;go_wp2_with(at_builtin;rw[<-Jb.out,<-Jd.out];refine ao rfl _ _ _ rfl _ _ v9 w9 rfl rfl Jc.out ?_);go_ret;exact HF
end Go.Proofs.YtlamjfhhefcohaaGreatDoor
