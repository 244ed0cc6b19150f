import Derived.Test.YtmddmgpijpjpbaaGreatDoorR25
import Derived.RegionTactic
namespace Go.Proofs.YtmddmgpijpjpbaaGreatDoor
open Go.RowKit
set_option linter.unusedVariables false
set_option linter.unusedSimpArgs false
set_option maxRecDepth 100000
set_option maxHeartbeats 16000000
structure Tk (K:List Nat) (w w':World):Prop where
 still:w'.os=w.os/\w'.tape=w.tape/\w'.output=w.output
 size:w.heap.size<=w'.heap.size
 other : ∀b,b<w.heap.size->b∉K->w'.heap[b]? = w.heap[b]?
theorem Tk.refl (K:List Nat) (w:World):Tk K w w:=⟨⟨rfl,rfl,rfl⟩,Nat.le_refl _,fun _ _ _=>rfl⟩
theorem Tk.trans {K:List Nat} {w w' w2:World} (h:Tk K w w') (k:Tk K w' w2):Tk K w w2:=
 ⟨⟨k.still.1.trans h.still.1,k.still.2.1.trans h.still.2.1,k.still.2.2.trans h.still.2.2⟩,Nat.le_trans h.size k.size,fun b hl hn=>(k.other b (Nat.lt_of_lt_of_le hl h.size) hn).trans (h.other b hl hn)⟩
theorem Tk.mono {K K':List Nat} {w w':World} (h:Tk K w w') (hK : ∀g∈K,g∈K'):Tk K' w w':=⟨h.still,h.size,fun b hl hn=>h.other b hl (fun e=>hn (hK b e))⟩
theorem Tk.of_below {K:List Nat} {w w':World} (hb:Below w.heap.size w w'):Tk K w w':=⟨⟨hb.os,hb.tape,hb.output⟩,hb.size,fun b hl _=>hb.block b hl⟩
theorem Tk.put {K : List Nat} (w : World) {g : Nat} (o : Nat) (v : Value) (hg : g ∈ K) : Tk K w (w.setCell ⟨g, o, none⟩ v) := by
  have hb0 := (Below.refl 0 w).setCell (p := ⟨g, o, none⟩) (Nat.zero_le _) v
  refine ⟨⟨hb0.os, hb0.tape, hb0.output⟩, by simp, fun b hl hb => ?_⟩
  exact Below.heap_setCell _ _ _ b (fun h => hb (by have e : b = g := by simpa using h
                                                    rw [e]; exact hg))
theorem Tk.below {B:Nat} {K:List Nat} {w w':World} (h:Tk K w w') (hg : ∀g∈K,B<=g) (hs:B<=w.heap.size):Below B w w':=
 ⟨h.still.1,h.still.2.1,h.still.2.2,h.size,fun k hk=>h.other k (by omega) (fun e=>by have:=hg k e;omega)⟩
def mkN (k:Nat):List Nd->List Nd
 | []=>[]
 | n::r=>⟨(k:Int),((k+1:Nat):Int),mtxt (k+2)⟩::mkN (k+3) r
def mkP (k:Nat):List ByteArray->List ByteArray
 | []=>[]
 | n::r=>mtxt k::mkP (k+1) r
def mkG (k:Nat):List Gl->List Gl
 | []=>[]
 | n::r=>⟨mtxt k,((k+1:Nat):Int)⟩::mkG (k+2) r
def mkSt (k:Nat) (s:St):St:=⟨(k:Int),mtxt (k+1),mkN (k+2) s.e,mkN (k+2+3*s.e.length) s.f,((k+2+3*s.e.length+3*s.f.length:Nat):Int),((k+3+3*s.e.length+3*s.f.length:Nat):Int)⟩
def mkS (k:Nat):List St->List St
 | []=>[]
 | s::r=>mkSt k s::mkS (k+cntS s) r
def mkFu (k:Nat) (f:Fu):Fu:=⟨mtxt k,mkP (k+1) f.params,mkS (k+1+f.params.length) f.body⟩
def mkF (k:Nat):List Fu->List Fu
 | []=>[]
 | f::r=>mkFu k f::mkF (k+cntF f) r
theorem mkN_len (k:Nat) (ns:List Nd):(mkN k ns).length=ns.length:=by
 induction ns generalizing k with
 | nil=>rfl
 | cons n r ih=>simp [mkN,ih]
theorem mkP_len (k:Nat) (ns:List ByteArray):(mkP k ns).length=ns.length:=by
 induction ns generalizing k with
 | nil=>rfl
 | cons n r ih=>simp [mkP,ih]
theorem mkG_len (k:Nat) (ns:List Gl):(mkG k ns).length=ns.length:=by
 induction ns generalizing k with
 | nil=>rfl
 | cons n r ih=>simp [mkG,ih]
theorem mkS_len (k:Nat) (ns:List St):(mkS k ns).length=ns.length:=by
 induction ns generalizing k with
 | nil=>rfl
 | cons n r ih=>simp [mkS,ih]
theorem mkF_len (k:Nat) (ns:List Fu):(mkF k ns).length=ns.length:=by
 induction ns generalizing k with
 | nil=>rfl
 | cons n r ih=>simp [mkF,ih]
theorem mkN_get (k:Nat) (ns:List Nd) (j:Nat) (h:j<(mkN k ns).length):(mkN k ns)[j]=⟨((k+3*j:Nat):Int),((k+3*j+1:Nat):Int),mtxt (k+3*j+2)⟩:=by
 induction ns generalizing k j with
 | nil=>simp [mkN] at h
 | cons n r ih=>
  cases j with
  | zero=>rfl
  | succ j=>
   simp only [mkN,List.getElem_cons_succ]
   rw [ih (k+3) j (by simpa [mkN] using h),show k+3+3*j=k+3*(j+1) by omega]
theorem mkP_get (k:Nat) (ns:List ByteArray) (j:Nat) (h:j<(mkP k ns).length):(mkP k ns)[j]=mtxt (k+j):=by
 induction ns generalizing k j with
 | nil=>simp [mkP] at h
 | cons n r ih=>
  cases j with
  | zero=>rfl
  | succ j=>
   simp only [mkP,List.getElem_cons_succ]
   rw [ih (k+1) j (by simpa [mkP] using h),show k+1+j=k+(j+1) by omega]
theorem mkG_get (k:Nat) (ns:List Gl) (j:Nat) (h:j<(mkG k ns).length):(mkG k ns)[j]=⟨mtxt (k+2*j),((k+2*j+1:Nat):Int)⟩:=by
 induction ns generalizing k j with
 | nil=>simp [mkG] at h
 | cons n r ih=>
  cases j with
  | zero=>rfl
  | succ j=>
   simp only [mkG,List.getElem_cons_succ]
   rw [ih (k+2) j (by simpa [mkG] using h),show k+2+2*j=k+2*(j+1) by omega]
theorem mkS_get (k:Nat) (ns:List St) (j:Nat) (h:j<ns.length) (h':j<(mkS k ns).length):(mkS k ns)[j]=mkSt (k+sumBy cntS (ns.take j)) ns[j]:=by
 induction ns generalizing k j with
 | nil=>simp at h
 | cons n r ih=>
  cases j with
  | zero=>simp [mkS,sumBy]
  | succ j=>
   simp only [mkS,List.getElem_cons_succ,List.take_succ_cons,sumBy]
   rw [ih (k+cntS n) j (by simpa using h) (by simpa [mkS] using h'),Nat.add_assoc]
theorem mkF_get (k:Nat) (ns:List Fu) (j:Nat) (h:j<ns.length) (h':j<(mkF k ns).length):(mkF k ns)[j]=mkFu (k+sumBy cntF (ns.take j)) ns[j]:=by
 induction ns generalizing k j with
 | nil=>simp at h
 | cons n r ih=>
  cases j with
  | zero=>simp [mkF,sumBy]
  | succ j=>
   simp only [mkF,List.getElem_cons_succ,List.take_succ_cons,sumBy]
   rw [ih (k+cntF n) j (by simpa using h) (by simpa [mkF] using h'),Nat.add_assoc]
theorem take_succ' {α:Type} {l:List α} {k:Nat} (h:k<l.length):l.take (k+1)=l.take k++[l[k]]:=by
 rw [List.take_succ_eq_append_getElem h]
def FrC (w:World) (g:Nat) (xs:List Value):Prop:=∀j x,xs[j]? = some x->w.cell? ⟨g,j,none⟩=some x/\w.frozen? ⟨g,j,none⟩=false
theorem FrC.set {w:World} {g:Nat} {xs:List Value} (h:FrC w g xs) (i:Nat) (u:Value):FrC (w.setCell ⟨g,i,none⟩ u) g (xs.set i u):=by
 intro j x hx
 rw [World.frozen?_setCell]
 by_cases e:i=j
 ·subst e
  have hl:=(List.getElem?_eq_some_iff.1 hx).1
  rw [List.length_set] at hl
  rw [List.getElem?_set_self hl] at hx
  obtain ⟨c,f⟩:=h i xs[i] (List.getElem?_eq_getElem hl)
  refine ⟨?_,f⟩
  rw [World.cell?_setCell_same _ _ _ c]
  exact hx
 ·rw [List.getElem?_set_ne e] at hx
  obtain ⟨c,f⟩:=h j x hx
  refine ⟨?_,f⟩
  rw [World.cell?_setCell_other _ _ _ _ (by intro h;simp only [Addr.mk.injEq] at h;omega)]
  exact c
theorem FrC.keep {w w':World} {g:Nat} {xs:List Value} (h:FrC w g xs) (e:w'.heap[g]? = w.heap[g]?):FrC w' g xs:=fun j x hx=>by
 obtain ⟨c,f⟩:=h j x hx
 exact ⟨(World.cell?_of_block (a:=⟨g,j,none⟩) e).trans c,(World.frozen?_of_block (a:=⟨g,j,none⟩) e).trans f⟩
theorem FrC.below {w w':World} {g:Nat} {xs:List Value} (h:FrC w g xs) (hb:Below w.heap.size w w'):FrC w' g xs:=fun j x hx=>by
 obtain ⟨c,f⟩:=h j x hx
 have hlt:=World.block_lt_of_cell? _ _ c
 exact ⟨(hb.cell (p:=⟨g,j,none⟩) hlt).trans c,(hb.frozen (p:=⟨g,j,none⟩) hlt).trans f⟩
def ROne (B:Nat) (w:World) (v:Value) (n:Nat) (xs:List Value) (K:List Nat):Prop:=(n=0/\K = []/\∃a c,v = .slice a 0 c/\c<=9223372036854775807)∨∃g cap,v = .slice (some ⟨g,0,none⟩) n cap/\K = [g]/\n<=cap/\cap<=9223372036854775807/\B<=g/\g<w.heap.size/\FrC w g xs
theorem ROne.keep {B:Nat} {w w':World} {v:Value} {n:Nat} {xs:List Value} {K:List Nat} (h:ROne B w v n xs K) (hs:w.heap.size<=w'.heap.size) (hk : ∀g∈K,w'.heap[g]? = w.heap[g]?):ROne B w' v n xs K:=by
 rcases h with h | ⟨g,cap,h1,rfl,h3,h4,h5,h6,h7⟩
 ·exact .inl h
 ·exact .inr ⟨g,cap,h1,rfl,h3,h4,h5,Nat.lt_of_lt_of_le h6 hs,h7.keep (hk g (by simp))⟩
theorem ROne.rng {B:Nat} {w:World} {v:Value} {n:Nat} {xs:List Value} {K:List Nat} (h:ROne B w v n xs K) : ∀g∈K,B<=g/\g<w.heap.size:=by
 rcases h with ⟨-,rfl,-⟩ | ⟨g,cap,-,rfl,-,-,h5,h6,-⟩
 ·intro g hg;cases hg
 ·intro x hx
  simp only [List.mem_singleton] at hx
  subst hx
  exact ⟨h5,h6⟩
theorem ROne.slice {B:Nat} {w:World} {v:Value} {n:Nat} {xs:List Value} {K:List Nat} (h:ROne B w v n xs K) : ∃a c,v = .slice a n c/\n<=c/\c<=9223372036854775807:=by
 rcases h with ⟨rfl,-,a,c,rfl,hc⟩ | ⟨g,cap,rfl,-,h3,h4,-⟩
 ·exact ⟨a,c,rfl,Nat.zero_le _,hc⟩
 ·exact ⟨_,cap,rfl,h3,h4⟩
theorem ROne.pos {B:Nat} {w:World} {a:Option Addr} {c n m:Nat} {xs:List Value} {K:List Nat} (h:ROne B w (.slice a m c) n xs K) (hp:0<n) : ∃g,a=some ⟨g,0,none⟩/\K = [g]/\m=n/\B<=g/\g<w.heap.size/\FrC w g xs:=by
 rcases h with ⟨rfl,-⟩ | ⟨g,cap,e,h2,-,-,h5,h6,h7⟩
 ·omega
 ·simp only [Value.slice.injEq] at e
  exact ⟨g,e.1,h2,e.2.1,h5,h6,h7⟩
theorem ROne.mk1 {B:Nat} {w w':World} {v:Value} {n:Nat} {xs ys:List Value} {K:List Nat} (h:ROne B w v n xs K) (hs:w.heap.size<=w'.heap.size) (hF : ∀g,K = [g]->FrC w' g ys):ROne B w' v n ys K:=by
 rcases h with h | ⟨g,cap,h1,rfl,h3,h4,h5,h6,h7⟩
 ·exact .inl h
 ·exact .inr ⟨g,cap,h1,rfl,h3,h4,h5,Nat.lt_of_lt_of_le h6 hs,hF g rfl⟩
theorem ROne.fr {B:Nat} {w:World} {v:Value} {n:Nat} {xs:List Value} {K:List Nat} (h:ROne B w v n xs K) : ∀g,K = [g]->FrC w g xs:=by
 rcases h with ⟨-,rfl,-⟩ | ⟨g,cap,-,rfl,-,-,-,-,h7⟩
 ·intro g hg;cases hg
 ·intro x hx;cases hx;exact h7
theorem ROne.of_own {B:Nat} {w:World} {e:TypeId} {size n:Nat} {v:Value} {xs:List Value} (h:w.ownsRow B e size v n xs) : ∃K,ROne B w v n xs K/\∀g,v.ownBlock=some g↔g∈K:=by
 rcases h.2 with ⟨rfl,rfl⟩ | ⟨g,cap,cur,rfl,h3,h4,h5,h6,h7,h8⟩
 ·exact ⟨[],.inl ⟨rfl,rfl,none,0,rfl,by omega⟩,fun g=>by simp [Value.ownBlock]⟩
 ·refine ⟨[g],.inr ⟨g,cap,rfl,rfl,h5,by unfold maxLen at h6;exact h6,h3,(World.ownsRow.lt h g rfl).2,fun j x hx=>⟨World.ownsRow.cells h (g:=g) rfl j x hx |> fun e=>by simpa [addrO] using e,h.frozenAt j⟩⟩,fun x=>by simp [Value.ownBlock,eq_comm]⟩
theorem NOne.r {B:Nat} {w:World} {v:Value} {ns:List Nd} {K:List Nat} (h:NOne B w v ns K):ROne B w v ns.length (flatN ns) K:=by
 rcases h with ⟨rfl,h⟩ | ⟨g,cap,h1,h2,h3,h4,h5,h6,h7,h8⟩
 ·exact .inl ⟨rfl,h⟩
 ·refine .inr ⟨g,cap,h1,h2,h3,h4,h5,h6,fun j x hx => ?_⟩
  have hl:=(List.getElem?_eq_some_iff.1 hx).1
  rw [flatN_len] at hl
  refine ⟨?_,h8 j hl⟩
  obtain ⟨m,hm,he⟩:=flatN_split ns j hl
  obtain ⟨c0,c1,c2⟩:=h7 m hm
  obtain ⟨e0,e1,e2⟩:=flatN_at ns m hm
  rcases he with rfl | rfl | rfl
  ·rw [e0] at hx;rw [<-hx];simpa using c0
  ·rw [e1] at hx;rw [<-hx];simpa using c1
  ·rw [e2] at hx;rw [<-hx];simpa using c2
theorem ROne.n {B:Nat} {w:World} {v:Value} {ns:List Nd} {K:List Nat} (h:ROne B w v ns.length (flatN ns) K):NOne B w v ns K:=by
 rcases h with ⟨h0,h⟩ | ⟨g,cap,h1,h2,h3,h4,h5,h6,h7⟩
 ·exact .inl ⟨List.eq_nil_of_length_eq_zero h0,h⟩
 ·refine .inr ⟨g,cap,h1,h2,h3,h4,h5,h6,fun j hj => ?_,fun j hj => ?_⟩
  ·obtain ⟨e0,e1,e2⟩:=flatN_at ns j hj
   rw [Nat.zero_add]
   exact ⟨(h7 _ _ e0).1,(h7 _ _ e1).1,(h7 _ _ e2).1⟩
  ·have hj':j<(flatN ns).length:=by rw [flatN_len];exact hj
   exact (h7 j _ (List.getElem?_eq_getElem hj')).2
theorem put1 {P S:List Value} {m:Nat} {x a:Value} (h:P.length=m):(P++x::S).set m a=P++a::S:=by
 subst h
 rw [List.set_append_right _ _ (Nat.le_refl _)]
 simp
theorem put2 {P S:List Value} {m:Nat} {x y a b:Value} (h:P.length=m):((P++x::y::S).set m a).set (m+1) b=P++a::b::S:=by
 rw [put1 h,show P++a::y::S=(P++[a])++y::S by simp,put1 (by simp [h])]
 simp
theorem put3 {P S:List Value} {m:Nat} {x y z a b c:Value} (h:P.length=m):(((P++x::y::z::S).set m a).set (m+1) b).set (m+2) c=P++a::b::c::S:=by
 rw [put2 h,show P++a::b::z::S=(P++[a,b])++z::S by simp,put1 (by simp [h])]
 simp
theorem mkN_snoc (k:Nat) (l:List Nd) (n:Nd):mkN k (l++[n])=mkN k l++[⟨((k+3*l.length:Nat):Int),((k+3*l.length+1:Nat):Int),mtxt (k+3*l.length+2)⟩]:=by
 induction l generalizing k with
 | nil=>simp [mkN]
 | cons a r ih=>
  simp only [List.cons_append,mkN,ih,l_c]
  rw [show k+3+3*r.length=k+3*(r.length+1) by omega]
theorem mkN_step (k:Nat) (ns:List Nd) (j:Nat) (hj:j<ns.length):(((flatN (mkN k (ns.take j)++ns.drop j)).set (j*3) (.int .i64 ((k+3*j:Nat):Int))).set (j*3+1) (.int .i64 ((k+3*j+1:Nat):Int))).set (j*3+2) (.string (mtxt (k+3*j+2)))=flatN (mkN k (ns.take (j+1))++ns.drop (j+1)):=by
 rw [List.drop_eq_getElem_cons hj,flatN_append,take_succ' hj,mkN_snoc,flatN_append,flatN_append]
 have hl:(flatN (mkN k (ns.take j))).length=j*3:=by rw [flatN_len,mkN_len,List.length_take,Nat.min_eq_left (by omega)]
 have e:flatN (ns[j]::ns.drop (j+1)) = .int .i64 ns[j].kind::.int .i64 ns[j].val::.string ns[j].name::flatN (ns.drop (j+1)):=rfl
 rw [e,put3 hl,List.length_take,Nat.min_eq_left (by omega),List.append_assoc]
 rfl
end Go.Proofs.YtmddmgpijpjpbaaGreatDoor
