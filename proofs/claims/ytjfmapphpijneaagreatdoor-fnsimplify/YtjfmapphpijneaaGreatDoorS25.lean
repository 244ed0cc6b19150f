import Derived.Test.YtjfmapphpijneaaGreatDoorS23
namespace Go.Proofs.YtjfmapphpijneaaGreatDoor
open Go.World List
open Go.Proofs.Tryz Go.RowKit
set_option linter.all false
set_option maxRecDepth 100000
set_option maxHeartbeats 0
variable[Inhabited Pick]
theorem oZ(k:Int)(hk:k=4\/k=5\/k=6\/k=7\/k=8)(s:Io)(ve vf:BY)(I J:List Nd)(t l:Int)(w:AT)(Jh:I.length<=2000)(Ji:J.length<=2000)(he:aC w ve I)(hf:aC w vf J):
    Calls prog 73 #[.agg #[V k,sV s,ve,vf,V t,V l]] w λe w'=>e=rW (.bool (bH ⟨k,s,I,J,t,l⟩))/\Bl w w':=by
  have h3:∀x:Int,x<0\/(¬x<0/\0<x)\/(¬x<0/\¬0<x/\x=0):=λx=>by omega
  rcases hk with rfl|rfl|rfl|rfl|rfl;all_goals
    have Z:=ah he;obtain⟨ae,ce,rfl,-,-,-⟩:=he;obtain⟨af,cf,rfl,-,-,-⟩:=hf;have HD:Hid (∀b:Bool,(decide (I.length<=2000)&&b)=b):=λb=>by simp[Jh]
    have Jj:Hid (∀b:Bool,(decide (J.length<=2000)&&b)=b):=λb=>by simp[Ji]
    go_in;go_wp2_with(go_at_call 45;refine(ja _ _ _ _).mono ?_;rintro e w' ⟨rfl,rfl⟩);refine(jX _ I _ o_ (Z.o.below (ao _ _))).mono ?_;rintro e w1 ⟨rfl,Jc⟩;rw[HD.o];simp only[Bl,J9]at Jc;have Ja:=aw Jc;have⟨x0,x1,x2,x3,x4,x5⟩:=sA Jc;cases ho:oneB I
    · go_wp2
      go_ret;exact⟨ak (by simp only[bH,stmtB];simp[ho]),Ja⟩
    cases hn:bh s
    case true=>go_wp2_with(go_at_call 44;refine(cK _ _).mono ?_;rintro e w' ⟨rfl,rfl⟩;rw[hn]);go_ret;exact⟨ak (by simp only[bH,stmtB];simp[ho,uy hn,-beq_nil_eq]),Ja⟩
    cases hs:(s.toList == [])
    · have Je:(s.toList != [])=true:=by rw[bne,hs];rfl
      go_wp2_with(go_at_call 44;refine(cK _ _).mono ?_;rintro e w' ⟨rfl,rfl⟩;rw[hn]);go_ret;exact⟨ak (by simp only[bH,stmtB];simp[ho,hs,-beq_nil_eq]),Ja⟩
    have Je:(s.toList != [])=false:=(by rw[bne,hs];rfl);by_cases hf0:0<J.length
    · go_wp2_with(go_at_call 44;refine(cK _ _).mono ?_;rintro e w' ⟨rfl,rfl⟩;rw[hn])
      go_ret;refine⟨ak ?_,Ja⟩;have:(J.length == 0)=false:=(by simp only[beq_eq_false_iff_ne];omega);simp only[bH,stmtB,this];simp[ho,hs,-beq_nil_eq]
    have Jd:Hid ((J.length == 0)=true):=(by show _=_;simp only[beq_iff_eq];omega);rcases h3 t with ht|⟨ht,Jl⟩|⟨-,-,rfl⟩ <;> rcases h3 l with hl|⟨hl,Jk⟩|⟨-,-,rfl⟩;all_goals go_wp2_with(go_at_call 44;refine(cK _ _).mono ?_;rintro e w' ⟨rfl,rfl⟩;rw[hn])
    all_goals first
      | (go_ret;exact⟨ak (by simp only[bH,stmtB,Jd.o];simp[ho,hs,-beq_nil_eq] <;> omega),Ja⟩)
      | (have Jb:=tK ho
         refine(Cy _ I _ Jb o_ (Z.o.below Ja)).mono ?_;rintro e w2 ⟨rfl,Jg⟩;have Jf:=Ja.trans (Jg.mono Ja.size);have U:Hid (lastKind I=(I[I.length-1]'(by omega)).kd):=by show lastKind I=_;simp only[lastKind];rw[J4 o_]
         generalize I[I.length-1]=n at U⊢;have Jm:=CA n.kd n.val n.nm;clear x0 x1 x2 x3 x4 x5 Jb;go_wp2;go_ret;refine⟨ak ?_,Jf⟩;simp only[bH,stmtB,Jd.o];simp[ho,hs,-beq_nil_eq,U.o])
end Go.Proofs.YtjfmapphpijneaaGreatDoor
