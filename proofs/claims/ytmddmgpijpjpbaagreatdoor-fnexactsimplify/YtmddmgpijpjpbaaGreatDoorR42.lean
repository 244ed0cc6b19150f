import Derived.Test.YtmddmgpijpjpbaaGreatDoorR25
import Derived.Test.YtmddmgpijpjpbaaGreatDoorR41
set_option linter.unusedSectionVars false
variable [Inhabited Go.Proofs.YtmddmgpijpjpbaaGreatDoor.Pick]
namespace Go.Proofs.YtmddmgpijpjpbaaGreatDoor
open Go.RowKit
set_option linter.unusedVariables false
set_option linter.unusedSimpArgs false
set_option maxRecDepth 100000
set_option maxHeartbeats 16000000
theorem flatN_pre (k:Nat) (ns:List Nd) (j:Nat) (hj:j<ns.length) (i:Nat) (hi:i<3) : ∃x,(flatN (mkN k (ns.take j)++ns.drop j))[j*3+i]? = some x:=by
 have:j*3+i<(flatN (mkN k (ns.take j)++ns.drop j)).length:=by
  rw [flatN_len,l_a,mkN_len,List.length_take,List.length_drop,Nat.min_eq_left (by omega)]
  omega
 exact ⟨_,List.getElem?_eq_getElem this⟩
theorem markNo_any (B:Nat) (v:Value) (ns:List Nd) (K:List Nat) (q:Nat) (w:World) (hn:ns.length<=1048576) (h0:0<q) (hq:(q:Int)+3*ns.length<=1000000000) (h:NOne B w v ns K) :
  Calls Tryz.prog 103 #[v,.int .i64 q] w fun e w'=>e = .returned (.int .i64 ((q+3*ns.length:Nat):Int))/\NOne B w' v (mkN q ns) K/\Tk K w w':=by
 have HN:Hid (ROne B w v ns.length (flatN ns) K):=h.r
 obtain ⟨a,c,rfl,-⟩:=h.r.slice
 clear h
 go_enter Tryz.func103,Tryz.ntmps103
 go_wp2_with fail
 go_loopw [1,5] (fun kk i wr=>∃k:Nat,k<=ns.length/\i = .int .i64 k/\kk = .int .i64 ((q+3*k:Nat):Int)/\Tk K w wr/\ROne B wr (.slice a ns.length c) ns.length (flatN (mkN q (ns.take k)++ns.drop k)) K) (fun _ i _=>ns.length-(intOf i).toNat)
 case atStart=>exact ⟨0,Nat.zero_le _,rfl,rfl,Tk.refl _ _,by simpa [mkN] using HN.out⟩
 case round=>
  obtain ⟨k,hk,rfl,rfl,hT,hR⟩:=hrel
  have HTn:Hid (Tk K w wr):=hT
  clear hT
  by_cases hlt:k<ns.length
  ·obtain ⟨g,rfl,hKg,-,hBg,hgl,hF⟩:=hR.pos (by omega)
   have HR:=hide hR
   have HF:Hid (FrC wr g (flatN (mkN q (ns.take k)++ns.drop k))):=hF
   have HST:Hid _:=mkN_step q ns k hlt
   obtain ⟨x0,e0⟩:=flatN_pre q ns k hlt 0 (by omega)
   rw [Nat.add_zero] at e0
   obtain ⟨c0,f0⟩:=hF _ _ e0
   obtain ⟨x1,e1⟩:=flatN_pre q ns k hlt 1 (by omega)
   obtain ⟨c1',f1'⟩:=hF _ _ e1
   obtain ⟨x2,e2⟩:=flatN_pre q ns k hlt 2 (by omega)
   obtain ⟨c2',f2'⟩:=hF _ _ e2
   have HKg:=hide hKg
   clear hF hR e0 e1 hKg
   obtain ⟨z,hz⟩ : ∃z:Nat,z=q+3*k:=⟨_,rfl⟩
   have HZ:=hide hz
   rw [<-hz]
   have hz0:0<z:=by omega
   have hz1:(z:Int)+3<=1000000000:=by omega
   clear hz
   have c1:(wr.setCell ⟨g,k*3,none⟩ (.int .i64 (z:Int))).cell? ⟨g,k*3+1,none⟩=some x1:=by
    rw [World.cell?_setCell_other _ _ _ _ (by intro h;simp only [Addr.mk.injEq] at h;omega)];exact c1'
   have f1:(wr.setCell ⟨g,k*3,none⟩ (.int .i64 (z:Int))).frozen? ⟨g,k*3+1,none⟩=false:=(World.frozen?_setCell _ _ _ _).trans f1'
   have HF2:Hid (FrC ((wr.setCell ⟨g,k*3,none⟩ (.int .i64 (z:Int))).setCell ⟨g,k*3+1,none⟩ (.int .i64 ((z:Int)+1))) g (((flatN (mkN q (ns.take k)++ns.drop k)).set (k*3) (.int .i64 (z:Int))).set (k*3+1) (.int .i64 ((z:Int)+1)))):=(HF.out.set _ _).set _ _
   have HE2:Hid (∃y,(((flatN (mkN q (ns.take k)++ns.drop k)).set (k*3) (.int .i64 (z:Int))).set (k*3+1) (.int .i64 ((z:Int)+1)))[k*3+2]? = some y):=⟨x2,by rw [List.getElem?_set_ne (by omega),List.getElem?_set_ne (by omega)];exact e2⟩
   clear c1' f1' c2' f2' e2
   go_wp2_with fail
   rw [show ((z:Int)+1+1)=((z+2:Nat):Int) by omega]
   refine (mtext_any (z+2) (by omega) (by omega) _).mono ?_
   rintro e w2 ⟨rfl,hb2⟩
   obtain ⟨y2,e2⟩:=HE2.out
   obtain ⟨c2,f2⟩:=(HF2.out.below hb2) _ _ e2
   have hm:g∈K:=by rw [HKg.out];simp
   have HT2:Hid (Tk K w (w2.setCell ⟨g,k*3+2,none⟩ (.string (mtxt (z+2))))):=(((HTn.out.trans (Tk.put _ _ _ hm)).trans (Tk.put _ _ _ hm)).trans (Tk.of_below hb2)).trans (Tk.put _ _ _ hm)
   have HR2:Hid (ROne B (w2.setCell ⟨g,k*3+2,none⟩ (.string (mtxt (z+2)))) (.slice (some ⟨g,0,none⟩) ns.length c) ns.length (flatN (mkN q (ns.take (k+1))++ns.drop (k+1))) K):=by
    refine HR.out.mk1 (by simpa using hb2.size) (fun x hx => ?_)
    obtain rfl:g=x:=by rw [HKg.out] at hx;simpa using hx
    rw [<-HST.out,<-HZ.out]
    exact (HF2.out.below hb2).set _ _
   clear c0 f0 c1 f1 hb2 e2 HR HF HF2 HE2 HST HTn
   go_wp2_with fail
   go_roundw
   case rel=>exact ⟨k+1,by omega,by go_num,by rw [HZ.out];go_num,HT2.out,HR2.out⟩
   case measure=>simp [intOf];omega
  ·obtain rfl:k=ns.length:=by omega
   go_wp2_with fail
   go_ret
   rw [List.take_length,List.drop_length,List.append_nil] at hR
   refine ⟨rfl,?_,HTn.out⟩
   have:=mkN_len q ns
   exact ROne.n (by rw [this];exact hR)
def cellsG (g:Gl):List Value:=[.string g.name,.int .i64 g.size]
def flatG (gs:List Gl):List Value:=gs.flatMap cellsG
theorem flatG_len (gs:List Gl):(flatG gs).length=gs.length*2:=by
 induction gs with
 | nil=>rfl
 | cons a r ih=>
  have:(flatG (a::r)).length=2+(flatG r).length:=by simp [flatG,cellsG];omega
  rw [this,ih,l_c]
  omega
theorem flatG_append (a b:List Gl):flatG (a++b)=flatG a++flatG b:=by simp [flatG]
theorem mkP_snoc (k:Nat) (l:List ByteArray) (n:ByteArray):mkP k (l++[n])=mkP k l++[mtxt (k+l.length)]:=by
 induction l generalizing k with
 | nil=>simp [mkP]
 | cons a r ih=>
  simp only [List.cons_append,mkP,ih,l_c]
  rw [show k+1+r.length=k+(r.length+1) by omega]
theorem mkG_snoc (k:Nat) (l:List Gl) (n:Gl):mkG k (l++[n])=mkG k l++[⟨mtxt (k+2*l.length),((k+2*l.length+1:Nat):Int)⟩]:=by
 induction l generalizing k with
 | nil=>simp [mkG]
 | cons a r ih=>
  simp only [List.cons_append,mkG,ih,l_c]
  rw [show k+2+2*r.length=k+2*(r.length+1) by omega]
theorem mkP_step (k:Nat) (ns:List ByteArray) (j:Nat) (hj:j<ns.length):(flatP (mkP k (ns.take j)++ns.drop j)).set j (.string (mtxt (k+j)))=flatP (mkP k (ns.take (j+1))++ns.drop (j+1)):=by
 rw [List.drop_eq_getElem_cons hj,take_succ' hj,mkP_snoc]
 have hl:(flatP (mkP k (ns.take j))).length=j:=by rw [flatP,List.length_map,mkP_len,List.length_take,Nat.min_eq_left (by omega)]
 have e:flatP (mkP k (ns.take j)++ns[j]::ns.drop (j+1))=flatP (mkP k (ns.take j))++.string ns[j]::flatP (ns.drop (j+1)):=by rw [flatP,List.map_append,List.map_cons];rfl
 rw [e,put1 hl,List.length_take,Nat.min_eq_left (by omega),List.append_assoc]
 simp [flatP]
theorem mkG_step (k:Nat) (ns:List Gl) (j:Nat) (hj:j<ns.length):((flatG (mkG k (ns.take j)++ns.drop j)).set (j*2) (.string (mtxt (k+2*j)))).set (j*2+1) (.int .i64 ((k+2*j+1:Nat):Int))=flatG (mkG k (ns.take (j+1))++ns.drop (j+1)):=by
 rw [List.drop_eq_getElem_cons hj,flatG_append,take_succ' hj,mkG_snoc,flatG_append,flatG_append]
 have hl:(flatG (mkG k (ns.take j))).length=j*2:=by rw [flatG_len,mkG_len,List.length_take,Nat.min_eq_left (by omega)]
 have e:flatG (ns[j]::ns.drop (j+1)) = .string ns[j].name::.int .i64 ns[j].size::flatG (ns.drop (j+1)):=rfl
 rw [e,put2 hl,List.length_take,Nat.min_eq_left (by omega),List.append_assoc]
 rfl
theorem flatP_pre (k:Nat) (ns:List ByteArray) (j:Nat) (hj:j<ns.length) (i:Nat) (hi:i<1) : ∃x,(flatP (mkP k (ns.take j)++ns.drop j))[j*1+i]? = some x:=by
 have:j*1+i<(flatP (mkP k (ns.take j)++ns.drop j)).length:=by
  rw [flatP,List.length_map,l_a,mkP_len,List.length_take,List.length_drop,Nat.min_eq_left (by omega)]
  omega
 exact ⟨_,List.getElem?_eq_getElem this⟩
theorem markPo_any (B:Nat) (v:Value) (ns:List ByteArray) (K:List Nat) (q:Nat) (w:World) (hn:ns.length<=1048576) (h0:0<q) (hq:(q:Int)+1*ns.length<=1000000000) (h:ROne B w v ns.length (flatP ns) K) :
  Calls Tryz.prog 65 #[v,.int .i64 q] w fun e w'=>e = .returned (.int .i64 ((q+1*ns.length:Nat):Int))/\ROne B w' v ns.length (flatP (mkP q ns)) K/\Tk K w w':=by
 have HN:=hide h
 obtain ⟨a,c,rfl,-⟩:=h.slice
 clear h
 go_enter Tryz.func65,Tryz.ntmps65
 go_wp2_with fail
 go_loopw [1,5] (fun kk i wr=>∃k:Nat,k<=ns.length/\i = .int .i64 k/\kk = .int .i64 ((q+1*k:Nat):Int)/\Tk K w wr/\ROne B wr (.slice a ns.length c) ns.length (flatP (mkP q (ns.take k)++ns.drop k)) K) (fun _ i _=>ns.length-(intOf i).toNat)
 case atStart=>exact ⟨0,Nat.zero_le _,rfl,rfl,Tk.refl _ _,by simpa [mkP] using HN.out⟩
 case round=>
  obtain ⟨k,hk,rfl,rfl,hT,hR⟩:=hrel
  have HTn:Hid (Tk K w wr):=hT
  clear hT
  by_cases hlt:k<ns.length
  ·obtain ⟨g,rfl,hKg,-,hBg,hgl,hF⟩:=hR.pos (by omega)
   have HR:=hide hR
   have HF:=hide hF
   have HST:Hid _:=mkP_step q ns k hlt
   have HKg:=hide hKg
   obtain ⟨x0,e0⟩:=flatP_pre q ns k hlt 0 (by omega)
   rw [Nat.add_zero,Nat.mul_one] at e0
   obtain ⟨c0',f0'⟩:=hF _ _ e0
   clear hF hR hKg
   obtain ⟨z,hz⟩ : ∃z:Nat,z=q+1*k:=⟨_,rfl⟩
   have HZ:=hide hz
   rw [<-hz]
   have hz0:0<z:=by omega
   have hz1:(z:Int)+1<=1000000000:=by omega
   clear hz
   go_wp2_with fail
   refine (mtext_any z (by omega) (by omega) _).mono ?_
   rintro e w2 ⟨rfl,hb2⟩
   have HF2:Hid (FrC w2 g (flatP (mkP q (ns.take k)++ns.drop k))):=HF.out.below hb2
   obtain ⟨c0,f0⟩:=HF2.out _ _ e0
   have hm:g∈K:=by rw [HKg.out];simp
   have HT2:Hid (Tk K w (w2.setCell ⟨g,k,none⟩ (.string (mtxt z)))):=(HTn.out.trans (Tk.of_below hb2)).trans (Tk.put _ _ _ hm)
   have HR2:Hid (ROne B (w2.setCell ⟨g,k,none⟩ (.string (mtxt z))) (.slice (some ⟨g,0,none⟩) ns.length c) ns.length (flatP (mkP q (ns.take (k+1))++ns.drop (k+1))) K):=by
    refine HR.out.mk1 (by simpa using hb2.size) (fun x hx => ?_)
    obtain rfl:g=x:=by rw [HKg.out] at hx;simpa using hx
    rw [<-HST.out,show q+k=z by have:=HZ.out;omega]
    exact HF2.out.set _ _
   clear hb2 HR HF HF2 HST HTn c0' f0'
   go_wp2_with fail
   go_roundw
   case rel=>exact ⟨k+1,by omega,by go_num,by rw [HZ.out];go_num,HT2.out,HR2.out⟩
   case measure=>simp [intOf];omega
  ·obtain rfl:k=ns.length:=by omega
   go_wp2_with fail
   go_ret
   rw [List.take_length,List.drop_length,List.append_nil] at hR
   exact ⟨rfl,hR,HTn.out⟩
theorem flatG_pre (k:Nat) (ns:List Gl) (j:Nat) (hj:j<ns.length) (i:Nat) (hi:i<2) : ∃x,(flatG (mkG k (ns.take j)++ns.drop j))[j*2+i]? = some x:=by
 have:j*2+i<(flatG (mkG k (ns.take j)++ns.drop j)).length:=by
  rw [flatG_len,l_a,mkG_len,List.length_take,List.length_drop,Nat.min_eq_left (by omega)]
  omega
 exact ⟨_,List.getElem?_eq_getElem this⟩
theorem markGo_any (B:Nat) (v:Value) (ns:List Gl) (K:List Nat) (q:Nat) (w:World) (hn:ns.length<=1048576) (h0:0<q) (hq:(q:Int)+2*ns.length<=1000000000) (h:ROne B w v ns.length (flatG ns) K) :
  Calls Tryz.prog 37 #[v,.int .i64 q] w fun e w'=>e = .returned (.int .i64 ((q+2*ns.length:Nat):Int))/\ROne B w' v ns.length (flatG (mkG q ns)) K/\Tk K w w':=by
 have HN:=hide h
 obtain ⟨a,c,rfl,-⟩:=h.slice
 clear h
 go_enter Tryz.func37,Tryz.ntmps37
 go_wp2_with fail
 go_loopw [1,5] (fun kk i wr=>∃k:Nat,k<=ns.length/\i = .int .i64 k/\kk = .int .i64 ((q+2*k:Nat):Int)/\Tk K w wr/\ROne B wr (.slice a ns.length c) ns.length (flatG (mkG q (ns.take k)++ns.drop k)) K) (fun _ i _=>ns.length-(intOf i).toNat)
 case atStart=>exact ⟨0,Nat.zero_le _,rfl,rfl,Tk.refl _ _,by simpa [mkG] using HN.out⟩
 case round=>
  obtain ⟨k,hk,rfl,rfl,hT,hR⟩:=hrel
  have HTn:Hid (Tk K w wr):=hT
  clear hT
  by_cases hlt:k<ns.length
  ·obtain ⟨g,rfl,hKg,-,hBg,hgl,hF⟩:=hR.pos (by omega)
   have HR:=hide hR
   have HF:=hide hF
   have HST:Hid _:=mkG_step q ns k hlt
   have HKg:=hide hKg
   obtain ⟨x0,e0⟩:=flatG_pre q ns k hlt 0 (by omega)
   rw [Nat.add_zero] at e0
   obtain ⟨c0',f0'⟩:=hF _ _ e0
   clear hF hR hKg
   obtain ⟨z,hz⟩ : ∃z:Nat,z=q+2*k:=⟨_,rfl⟩
   have HZ:=hide hz
   rw [<-hz]
   have hz0:0<z:=by omega
   have hz1:(z:Int)+2<=1000000000:=by omega
   clear hz
   go_wp2_with fail
   refine (mtext_any z (by omega) (by omega) _).mono ?_
   rintro e w2 ⟨rfl,hb2⟩
   have HF2:Hid (FrC w2 g (flatG (mkG q (ns.take k)++ns.drop k))):=HF.out.below hb2
   obtain ⟨c0,f0⟩:=HF2.out _ _ e0
   have hm:g∈K:=by rw [HKg.out];simp
   obtain ⟨x1,e1⟩:=flatG_pre q ns k hlt 1 (by omega)
   obtain ⟨c1',f1'⟩:=HF2.out _ _ e1
   have c1:(w2.setCell ⟨g,k*2,none⟩ (.string (mtxt z))).cell? ⟨g,k*2+1,none⟩=some x1:=by
    rw [World.cell?_setCell_other _ _ _ _ (by intro h;simp only [Addr.mk.injEq] at h;omega)];exact c1'
   have f1:(w2.setCell ⟨g,k*2,none⟩ (.string (mtxt z))).frozen? ⟨g,k*2+1,none⟩=false:=(World.frozen?_setCell _ _ _ _).trans f1'
   have HT2:Hid (Tk K w ((w2.setCell ⟨g,k*2,none⟩ (.string (mtxt z))).setCell ⟨g,k*2+1,none⟩ (.int .i64 ((z:Int)+1)))):=((HTn.out.trans (Tk.of_below hb2)).trans (Tk.put _ _ _ hm)).trans (Tk.put _ _ _ hm)
   have HR2:Hid (ROne B ((w2.setCell ⟨g,k*2,none⟩ (.string (mtxt z))).setCell ⟨g,k*2+1,none⟩ (.int .i64 ((z:Int)+1))) (.slice (some ⟨g,0,none⟩) ns.length c) ns.length (flatG (mkG q (ns.take (k+1))++ns.drop (k+1))) K):=by
    refine HR.out.mk1 (by simpa using hb2.size) (fun x hx => ?_)
    obtain rfl:g=x:=by rw [HKg.out] at hx;simpa using hx
    rw [<-HST.out,<-HZ.out]
    exact (HF2.out.set _ _).set _ _
   clear c1' f1' e1
   clear hb2 HR HF HF2 HST HTn c0' f0'
   go_wp2_with fail
   go_roundw
   case rel=>exact ⟨k+1,by omega,by go_num,by rw [HZ.out];go_num,HT2.out,HR2.out⟩
   case measure=>simp [intOf];omega
  ·obtain rfl:k=ns.length:=by omega
   go_wp2_with fail
   go_ret
   rw [List.take_length,List.drop_length,List.append_nil] at hR
   exact ⟨rfl,hR,HTn.out⟩
theorem blk_cons (q:SV) (R:List SV):blkS (q::R)=(q.ke++q.kf)++blkS R:=rfl
theorem blk_in {R:List SV} {j:Nat} (hj:j<R.length) {g:Nat} (hg:g∈R[j].ke++R[j].kf):g∈blkS R:=List.mem_flatMap.2 ⟨_,List.getElem_mem hj,hg⟩
theorem blk_sep : ∀(R:List SV),(blkS R).Nodup->∀(i j:Nat) (hi:i<R.length) (hj:j<R.length),i≠j->∀g,g∈R[i].ke++R[i].kf->g∉R[j].ke++R[j].kf
 | [],_,i,j,hi,_,_,_,_=>absurd hi (by simp)
 | q::R,hn,i,j,hi,hj,hne,g,h1=>by
  rw [blk_cons,List.nodup_append] at hn
  obtain ⟨-,n2,n3⟩:=hn
  cases i with
  | zero=>
   cases j with
   | zero=>exact absurd rfl hne
   | succ j=>exact fun h2=>n3 g h1 g (blk_in (by simpa using hj) h2) rfl
  | succ i=>
   cases j with
   | zero=>exact fun h2=>n3 g h2 g (blk_in (by simpa using hi) h1) rfl
   | succ j=>exact blk_sep R n2 i j (by simpa using hi) (by simpa using hj) (by omega) g h1
theorem blk_set : ∀(R:List SV) (i:Nat) (hi:i<R.length) (q:SV),q.ke=R[i].ke->q.kf=R[i].kf->blkS (R.set i q)=blkS R
 | [],i,hi,_,_,_=>absurd hi (by simp)
 | x::R,0,_,q,h1,h2=>by
  simp only [List.getElem_cons_zero] at h1 h2
  rw [List.set_cons_zero,blk_cons,blk_cons,h1,h2]
 | x::R,i+1,hi,q,h1,h2=>by
  rw [List.set_cons_succ,blk_cons,blk_cons,blk_set R i (by simpa using hi) q (by simpa using h1) (by simpa using h2)]
theorem flatS_put : ∀(R:List SV) (i:Nat) (hi:i<R.length) (q:SV) (c:Nat) (x:Value),c<6->cellsS q=(cellsS R[i]).set c x->(flatS R).set (i*6+c) x=flatS (R.set i q)
 | [],i,hi,_,_,_,_,_=>absurd hi (by simp)
 | y::R,0,_,q,c,x,hc,h=>by
  simp only [List.getElem_cons_zero] at h
  show (cellsS y++flatS R).set (0*6+c) x=cellsS q++flatS R
  have hl:(cellsS y).length=6:=rfl
  rw [h,Nat.zero_mul,Nat.zero_add,List.set_append_left _ _ (by omega)]
 | y::R,i+1,hi,q,c,x,hc,h=>by
  have ih:=flatS_put R i (by simpa using hi) q c x hc (by simpa using h)
  have e:(i+1)*6+c=(i*6+c)+6:=by omega
  show (cellsS y++flatS R).set ((i+1)*6+c) x=cellsS y++flatS (R.set i q)
  rw [<-ih,e]
  rfl
theorem flatS_same : ∀(R:List SV) (i:Nat) (hi:i<R.length) (q:SV),cellsS q=cellsS R[i]->flatS (R.set i q)=flatS R
 | [],i,hi,_,_=>absurd hi (by simp)
 | y::R,0,_,q,h=>by
  simp only [List.getElem_cons_zero] at h
  show cellsS q++flatS R=cellsS y++flatS R
  rw [h]
 | y::R,i+1,hi,q,h=>by
  show cellsS y++flatS (R.set i q)=cellsS y++flatS R
  rw [flatS_same R i (by simpa using hi) q (by simpa using h)]
structure StM (B:Nat) (w:World) (v:Value) (R:List SV) (K:List Nat):Prop where
 row:ROne B w v R.length (flatS R) K
 each : ∀q∈R,NOne B w q.ve q.s.e q.ke/\NOne B w q.vf q.s.f q.kf
 nd:(K++blkS R).Nodup
theorem StRow.m {B:Nat} {w:World} {v:Value} {R:List SV} (h:StRow B w v R) : ∃K,StM B w v R K/\∀g,v.ownBlock=some g↔g∈K:=by
 obtain ⟨K,h1,h2⟩:=ROne.of_own h.row
 refine ⟨K,⟨h1,h.each,?_⟩,h2⟩
 rw [List.nodup_append]
 refine ⟨?_,h.nd,fun a ha b hb e => ?_⟩
 ·rcases h1 with ⟨-,rfl,-⟩ | ⟨g,cap,-,rfl,-⟩ <;> simp
 ·subst e
  exact h.out a ((h2 a).2 ha) hb
theorem StM.rng {B:Nat} {w:World} {v:Value} {R:List SV} {K:List Nat} (h:StM B w v R K) : ∀g∈K++blkS R,B<=g/\g<w.heap.size:=by
 intro g hg
 rcases List.mem_append.1 hg with hg | hg
 ·exact h.row.rng g hg
 ·simp only [blkS,List.mem_flatMap,List.mem_append] at hg
  obtain ⟨q,hq,hg | hg⟩:=hg
  ·exact (h.each q hq).1.rng g hg
  ·exact (h.each q hq).2.rng g hg
theorem StM.keep {B:Nat} {w w':World} {v:Value} {R:List SV} {K:List Nat} (h:StM B w v R K) (hs:w.heap.size<=w'.heap.size) (hk : ∀g∈K++blkS R,w'.heap[g]? = w.heap[g]?):StM B w' v R K:=
 ⟨h.row.keep hs (fun g hg=>hk g (List.mem_append.2 (.inl hg))),fun q hq=>⟨(h.each q hq).1.keep hs (fun g hg=>hk g (List.mem_append.2 (.inr ((mem_blk hq).1 g hg)))),(h.each q hq).2.keep hs (fun g hg=>hk g (List.mem_append.2 (.inr ((mem_blk hq).2 g hg))))⟩,h.nd⟩
theorem StM.below {B:Nat} {w w':World} {v:Value} {R:List SV} {K:List Nat} (h:StM B w v R K) (hb:Below w.heap.size w w'):StM B w' v R K:=h.keep hb.size (fun g hg=>hb.block g (h.rng g hg).2)
theorem StM.upd {B:Nat} {w w':World} {v:Value} {R:List SV} {K:List Nat} (h:StM B w v R K) (i:Nat) (hi:i<R.length) (q:SV) (hs:w.heap.size<=w'.heap.size) (h1:q.ke=R[i].ke) (h2:q.kf=R[i].kf) (hr:ROne B w' v R.length (flatS (R.set i q)) K) (he:NOne B w' q.ve q.s.e q.ke) (hf:NOne B w' q.vf q.s.f q.kf) (hk : ∀g∈blkS R,g∉R[i].ke++R[i].kf->w'.heap[g]? = w.heap[g]?):StM B w' v (R.set i q) K:=by
 refine ⟨by rw [List.length_set];exact hr,fun x hx => ?_,by rw [blk_set R i hi q h1 h2];exact h.nd⟩
 obtain ⟨j,hj,rfl⟩:=List.mem_iff_getElem.1 hx
 have hj':j<R.length:=by simpa using hj
 by_cases e:i=j
 ·subst e
  rw [List.getElem_set_self]
  exact ⟨he,hf⟩
 ·rw [List.getElem_set_ne e]
  have hnd:=(List.nodup_append.1 h.nd).2.1
  have key : ∀g,g∈R[j].ke++R[j].kf->w'.heap[g]? = w.heap[g]? := fun g hg=>hk g (blk_in hj' hg) (blk_sep R hnd j i hj' hi (Ne.symm e) g hg)
  obtain ⟨a,b⟩:=h.each _ (List.getElem_mem hj')
  exact ⟨a.keep hs (fun g hg=>key g (List.mem_append.2 (.inl hg))),b.keep hs (fun g hg=>key g (List.mem_append.2 (.inr hg)))⟩
theorem StM.put {B:Nat} {w:World} {g n cp:Nat} {R:List SV} (h:StM B w (.slice (some ⟨g,0,none⟩) n cp) R [g]) (i:Nat) (hi:i<R.length) (c:Nat) (hc:c<6) (x:Value) (q:SV) (hq:cellsS q=(cellsS R[i]).set c x) (h1:q.ke=R[i].ke) (h2:q.kf=R[i].kf) (h3:q.ve=R[i].ve) (h4:q.vf=R[i].vf) (h5:q.s.e=R[i].s.e) (h6:q.s.f=R[i].s.f):StM B (w.setCell ⟨g,i*6+c,none⟩ x) (.slice (some ⟨g,0,none⟩) n cp) (R.set i q) [g]:=by
 have hnd:=h.nd
 have hout : ∀b∈blkS R,b≠g:=fun b hb e=>by
  subst e
  exact (List.nodup_append.1 hnd).2.2 b (by simp) b hb rfl
 have hk : ∀b∈blkS R,(w.setCell ⟨g,i*6+c,none⟩ x).heap[b]? = w.heap[b]? := fun b hb=>Below.heap_setCell _ _ _ b (fun e=>hout b hb (by simpa using e))
 obtain ⟨a,b⟩:=h.each _ (List.getElem_mem hi)
 refine h.upd i hi q (by simp) h1 h2 (h.row.mk1 (by simp) fun y hy => ?_) ?_ ?_ (fun b hb _=>hk b hb)
 ·obtain rfl:g=y:=by simpa using hy
  rw [<-flatS_put R i hi q c x hc hq]
  exact (h.row.fr g rfl).set _ _
 ·rw [h1,h3,h5];exact a.keep (by simp) (fun b hb=>hk b (blk_in hi (List.mem_append.2 (.inl hb))))
 ·rw [h2,h4,h6];exact b.keep (by simp) (fun b hb=>hk b (blk_in hi (List.mem_append.2 (.inr hb))))
def setE (q:SV) (ns:List Nd):SV:=⟨⟨q.s.kind,q.s.name,ns,q.s.f,q.s.thn,q.s.els⟩,q.ve,q.vf,q.ke,q.kf⟩
def setF (q:SV) (ns:List Nd):SV:=⟨⟨q.s.kind,q.s.name,q.s.e,ns,q.s.thn,q.s.els⟩,q.ve,q.vf,q.ke,q.kf⟩
theorem StM.putE {B:Nat} {w w':World} {v:Value} {R:List SV} {K:List Nat} (h:StM B w v R K) (i:Nat) (hi:i<R.length) (ns:List Nd) (hn:NOne B w' R[i].ve ns R[i].ke) (hT:Tk R[i].ke w w'):StM B w' v (R.set i (setE R[i] ns)) K:=by
 have hnd:=h.nd
 obtain ⟨a,b⟩:=h.each _ (List.getElem_mem hi)
 have hkf : ∀g∈R[i].kf,g∉R[i].ke:=fun g hg he=>by
  have h1:=(List.nodup_append.1 hnd).2.1
  have:(R[i].ke++R[i].kf).Nodup:=by
   have e:R=R.take i++R[i]::R.drop (i+1):=by rw [<-List.drop_eq_getElem_cons hi,List.take_append_drop]
   rw [e,blkS_append,List.nodup_append] at h1
   rw [blk_cons,List.nodup_append] at h1
   exact h1.2.1.1
  exact (List.nodup_append.1 this).2.2 g he g hg rfl
 refine h.upd i hi (setE R[i] ns) hT.size rfl rfl (h.row.mk1 hT.size fun g hg => ?_) hn (b.keep hT.size fun g hg=>hT.other g (b.rng g hg).2 (hkf g hg)) (fun g hg hn => ?_)
 ·rw [flatS_same R i hi (setE R[i] ns) rfl]
  refine (h.row.fr g hg).keep (hT.other g (h.row.rng g (by rw [hg];simp)).2 (fun he => ?_))
  exact (List.nodup_append.1 hnd).2.2 g (by rw [hg];simp) g (blk_in hi (List.mem_append.2 (.inl he))) rfl
 ·exact hT.other g (h.rng g (List.mem_append.2 (.inr hg))).2 (fun he=>hn (List.mem_append.2 (.inl he)))
theorem StM.putF {B:Nat} {w w':World} {v:Value} {R:List SV} {K:List Nat} (h:StM B w v R K) (i:Nat) (hi:i<R.length) (ns:List Nd) (hn:NOne B w' R[i].vf ns R[i].kf) (hT:Tk R[i].kf w w'):StM B w' v (R.set i (setF R[i] ns)) K:=by
 have hnd:=h.nd
 obtain ⟨a,b⟩:=h.each _ (List.getElem_mem hi)
 have hke : ∀g∈R[i].ke,g∉R[i].kf:=fun g hg he=>by
  have h1:=(List.nodup_append.1 hnd).2.1
  have:(R[i].ke++R[i].kf).Nodup:=by
   have e:R=R.take i++R[i]::R.drop (i+1):=by rw [<-List.drop_eq_getElem_cons hi,List.take_append_drop]
   rw [e,blkS_append,List.nodup_append] at h1
   rw [blk_cons,List.nodup_append] at h1
   exact h1.2.1.1
  exact (List.nodup_append.1 this).2.2 g hg g he rfl
 refine h.upd i hi (setF R[i] ns) hT.size rfl rfl (h.row.mk1 hT.size fun g hg => ?_) (a.keep hT.size fun g hg=>hT.other g (a.rng g hg).2 (hke g hg)) hn (fun g hg hn => ?_)
 ·rw [flatS_same R i hi (setF R[i] ns) rfl]
  refine (h.row.fr g hg).keep (hT.other g (h.row.rng g (by rw [hg];simp)).2 (fun he => ?_))
  exact (List.nodup_append.1 hnd).2.2 g (by rw [hg];simp) g (blk_in hi (List.mem_append.2 (.inr he))) rfl
 ·exact hT.other g (h.rng g (List.mem_append.2 (.inr hg))).2 (fun he=>hn (List.mem_append.2 (.inr he)))
theorem StM.cell {B:Nat} {w:World} {g n cp:Nat} {R:List SV} (h:StM B w (.slice (some ⟨g,0,none⟩) n cp) R [g]) (i:Nat) (hi:i<R.length) (c:Nat) (hc:c<6):w.cell? ⟨g,i*6+c,none⟩=(cellsS R[i])[c]? /\ w.frozen? ⟨g,i*6+c,none⟩=false:=by
 have hl:c<(cellsS R[i]).length:=hc
 have e:=flatS_get R i c hi hc
 rw [List.getElem?_eq_getElem hl] at e ⊢
 exact h.row.fr g rfl _ _ e
def mkR (k:Nat):List SV->List SV
 | []=>[]
 | q::R => {q with s:=mkSt k q.s}::mkR (k+cntS q.s) R
def sumR (R:List SV):Nat:=sumBy cntS (R.map (·.s))
theorem mkR_len (k:Nat) (R:List SV):(mkR k R).length=R.length:=by
 induction R generalizing k with
 | nil=>rfl
 | cons n r ih=>simp [mkR,ih]
theorem mkR_map (k:Nat) (R:List SV):(mkR k R).map (·.s)=mkS k (R.map (·.s)):=by
 induction R generalizing k with
 | nil=>rfl
 | cons n r ih=>simp [mkR,mkS,ih]
theorem mkR_blk (k:Nat) (R:List SV):blkS (mkR k R)=blkS R:=by
 induction R generalizing k with
 | nil=>rfl
 | cons n r ih=>rw [mkR,blk_cons,blk_cons,ih]
theorem mkR_snoc (k:Nat) (l:List SV) (q:SV):mkR k (l++[q])=mkR k l++[{q with s:=mkSt (k+sumR l) q.s}]:=by
 induction l generalizing k with
 | nil=>simp [mkR,sumR,sumBy]
 | cons a r ih=>
  have e:sumR (a::r)=cntS a.s+sumR r:=by simp [sumR,sumBy]
  simp only [List.cons_append,mkR,ih]
  rw [e,Nat.add_assoc]
theorem sumR_step (R:List SV) (j:Nat) (hj:j<R.length):sumR (R.take (j+1))=sumR (R.take j)+cntS R[j].s:=by
 have h:=sumBy_step cntS (R.map (·.s)) j (by simpa using hj)
 simp only [sumR,List.map_take]
 rw [h,List.getElem_map]
theorem mkR_step (k:Nat) (R:List SV) (j:Nat) (hj:j<R.length) : ∃(h:j<(mkR k (R.take j)++R.drop j).length),(mkR k (R.take j)++R.drop j)[j]=R[j]/\(mkR k (R.take j)++R.drop j).set j {R[j] with s:=mkSt (k+sumR (R.take j)) R[j].s}=mkR k (R.take (j+1))++R.drop (j+1):=by
 have hl:(mkR k (R.take j)).length=j:=by rw [mkR_len,List.length_take,Nat.min_eq_left (by omega)]
 refine ⟨by rw [l_a,hl,List.length_drop];omega,?_,?_⟩
 ·rw [List.getElem_append_right (by omega)]
  simp [hl]
 ·rw [List.drop_eq_getElem_cons hj,take_succ' hj,mkR_snoc,List.set_append_right _ _ (by omega),hl,Nat.sub_self,List.set_cons_zero,List.append_assoc]
  rfl
end Go.Proofs.YtmddmgpijpjpbaaGreatDoor
