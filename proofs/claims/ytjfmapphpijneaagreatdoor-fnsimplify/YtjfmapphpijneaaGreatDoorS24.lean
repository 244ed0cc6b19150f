import Derived.Test.YtjfmapphpijneaaGreatDoorS23
namespace Go.Proofs.YtjfmapphpijneaaGreatDoor
open Go.World List
open Go.Proofs.Tryz Go.RowKit
set_option linter.all false
set_option maxRecDepth 100000
set_option maxHeartbeats 0
variable[Inhabited Pick]
def CB(k:Int)(hk:k=1\/k=2)(s:Io)(U vf:BY)(J I:List Nd)(t l:Int)(w:AT)(Jd:J.length<=2000)(Je:I.length<=2000)(Z:aC w U J)(hf:aC w vf I):
  Calls prog 73 #[.agg #[V k,sV s,U,vf,V t,V l]] w λe w'=>e=rW (.bool (bH ⟨k,s,J,I,t,l⟩))/\Bl w w':=by
 have h3:∀x:Int,x<0\/(¬x<0/\0<x)\/(¬x<0/\¬0<x/\x=0):=λx=>by omega
 rcases hk with rfl|rfl;all_goals
  have HE:=ah Z;obtain⟨ae,ce,rfl,-,-,-⟩:=Z;obtain⟨af,cf,rfl,-,-,-⟩:=hf;have HD:Hid (∀b:Bool,(decide (J.length<=2000)&&b)=b):=λb=>by simp[Jd]
  have Jf:Hid (∀b:Bool,(decide (I.length<=2000)&&b)=b):=λb=>by simp[Je]
  go_in;go_wp2_with(go_at_call 45;refine(ja _ _ _ _).mono ?_;rintro e w' ⟨rfl,rfl⟩);refine(jX _ J _ o_ (HE.o.below (ao _ _))).mono ?_;rintro e w1 ⟨rfl,Jb⟩;rw[HD.o];simp only[Bl,J9]at Jb;have Ja:=aw Jb;have⟨x0,x1,x2,x3,x4,x5⟩:=sA Jb;cases ho:oneB J
  ·go_wp2;go_ret;exact⟨ak (by simp only[bH,stmtB];simp[ho]),Ja⟩
  cases hn:bh s
  ·go_wp2_with(go_at_call 44;refine(cK _ _).mono ?_;rintro e w' ⟨rfl,rfl⟩;rw[hn])
   go_ret;exact⟨ak (by simp only[bH,stmtB];simp[ho,hn]),Ja⟩
  by_cases hf0:0<I.length
  ·go_wp2_with(go_at_call 44;refine(cK _ _).mono ?_;rintro e w' ⟨rfl,rfl⟩;rw[hn])
   go_ret;refine⟨ak ?_,Ja⟩;have:(I.length == 0)=false:=(by simp only[beq_eq_false_iff_ne];omega);simp only[bH,stmtB,this];simp[ho,hn]
  have Jc:Hid ((I.length == 0)=true):=by show _=_;simp only[beq_iff_eq];omega
  rcases h3 t with ht|⟨ht,Jh⟩|⟨-,-,rfl⟩ <;> rcases h3 l with hl|⟨hl,Jg⟩|⟨-,-,rfl⟩;all_goals go_wp2_with(go_at_call 44;refine(cK _ _).mono ?_;rintro e w' ⟨rfl,rfl⟩;rw[hn])
  all_goals go_ret
  all_goals exact⟨ak (by simp only[bH,stmtB,Jc.o];simp[ho,hn] <;> omega),Ja⟩
def GU(s:Io)(Z vf:BY)(J I:List Nd)(t l:Int)(w:AT)(Jh:J.length<=2000)(Ji:I.length<=2000)(he:aC w Z J)(U:aC w vf I):
  Calls prog 73 #[.agg #[V 3,sV s,Z,vf,V t,V l]] w λe w'=>e=rW (.bool (bH ⟨3,s,J,I,t,l⟩))/\Bl w w':=by
 have h3:∀x:Int,x<0\/(¬x<0/\0<x)\/(¬x<0/\¬0<x/\x=0):=λx=>by omega
 have HE:=ah he;have HF:=ah U;obtain⟨ae,ce,rfl,-,-,-⟩:=he;obtain⟨af,cf,rfl,-,-,-⟩:=U;have HD:Hid (∀b:Bool,(decide (J.length<=2000)&&b)=b):=λb=>by simp[Jh]
 have Je:Hid (∀b:Bool,(decide (I.length<=2000)&&b)=b):=λb=>by simp[Ji]
 go_in;go_wp2_with(go_at_call 45;refine(ja _ _ _ _).mono ?_;rintro e w' ⟨rfl,rfl⟩);refine(jX _ J _ o_ (HE.o.below (ao _ _))).mono ?_;rintro e w1 ⟨rfl,Jb⟩;rw[HD.o];simp only[Bl,J9]at Jb;have Jc:=aw Jb;have⟨x0,x1,x2,x3,x4,x5⟩:=sA Jb;cases ho:oneB J
 ·go_wp2;go_ret;exact⟨ak (by simp only[bH,stmtB];simp[ho]),Jc⟩
 cases hn:bh s
 ·go_wp2_with(go_at_call 44;refine(cK _ _).mono ?_;rintro e w' ⟨rfl,rfl⟩;rw[hn])
  go_ret;exact⟨ak (by simp only[bH,stmtB];simp[ho,hn]),Jc⟩
 by_cases hf0:0<I.length
 case neg=>
  go_wp2_with(go_at_call 44;refine(cK _ _).mono ?_;rintro e w' ⟨rfl,rfl⟩;rw[hn]);go_ret;refine⟨ak ?_,Jc⟩;have:I=[]:=J3 o_;subst this;have Jg:oneB []=false:=by simp[oneB,wholeTo]
  simp only[bH,stmtB];simp[ho,hn,Jg]
 go_wp2_with(go_at_call 44;refine(cK _ _).mono ?_;rintro e w' ⟨rfl,rfl⟩;rw[hn]);refine(jX _ I _ o_ (HF.o.below Jc)).mono ?_;rintro e w2 ⟨rfl,Jf⟩;rw[Je.o];have Ja:=Jb.trans (Jf.mono (by have:=Jb.size;simp at this;omega));have Jd:=aw Ja;have⟨x0,x1,x2,x3,x4,x5⟩:=sA Ja;cases hof:oneB I
 ·go_wp2;go_ret;exact⟨ak (by simp only[bH,stmtB];simp[ho,hn,hof]),Jd⟩
 rcases h3 t with ht|⟨ht,Jk⟩|⟨-,-,rfl⟩ <;> rcases h3 l with hl|⟨hl,Jj⟩|⟨-,-,rfl⟩;all_goals go_wp2_with fail
 all_goals go_ret
 all_goals exact⟨ak (by simp only[bH,stmtB];simp[ho,hn,hof] <;> omega),Jd⟩
end Go.Proofs.YtjfmapphpijneaaGreatDoor
