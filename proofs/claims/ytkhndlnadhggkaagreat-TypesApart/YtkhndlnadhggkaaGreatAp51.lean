/- The statement on TypesApart: of every text and number, what Check tells of a program that has one of its clauses alone is what Infer tells of that clause, and where the types and relations are wrong already, the clauses turn nothing. No condition. -/
import Derived.Test.YtkhndlnadhggkaaGreatAp01
import Derived.Test.YtkhndlnadhggkaaGreatAp50
import Derived.SizedLaws
namespace Go.Proofs.YtkhndlnadhggkaaGreat
open Go.ChangeShapes Go.WideShapes Go.ChangeAt Go.RowKit
open Go.ChangeMaps (open_string shut_string)
set_option maxRecDepth 100000 in
theorem typesApart_lifted(os:Os)(started:os.Started)(H:Type)(enc:TypeId×Value->H):
  ReturnsInHanded {} Tryz.checked os 7 .any (Rows.typesApartSpec.pre6 enc Tryz.prog Tryz.f7 Rows.typesApartRow.domain false) (Rows.typesApartSpec.post enc Tryz.prog Tryz.f7 false true false false):=by
 refine returnsInHanded_of_change_sized (C:=Tryz.checked) own started (by kernel_rfl) Tryz.func7
  (ChangeSpec.witness6 (enc:=enc) (C:=Tryz.checked) false ⟨#[],#[Je,Ji 0],[]⟩ 8 (by kernel_rfl) (by kernel_rfl) (by kernel_rfl) (by kernel_rfl)) ?_
 intro W o c k u D b m _ d _;have i:(DataW.weightsEach Tryz.prog (Tryz.f7.params.toList++Rows.typesApartSpec.plain.varTypes Tryz.prog) (k++u)).all (· <= reachBytes)=true:=d;clear d;have a:∀(j:Nat) t v,Tryz.f7.params[j]?=some t->c[j]?=some v->Value.okWide Tryz.prog W .any o t v:=b;have g:=m;obtain⟨p,q,f,y,rfl,_,_⟩:=m;have l:DataW.TrodAll enc Tryz.prog W 0 (fun _=>true) true Tryz.f7.params.toList c.toList k p:=f;rw[Tryz.params7]at l a i;obtain⟨A,B,F,G,I,J,rfl,rfl,rfl,w,x⟩:=trodAll_two l;obtain⟨rfl,rfl⟩:=trodVars_none y;obtain⟨z,rfl,rfl,rfl,s⟩:=open_int Tryz.underlying3 (a 1 3 B rfl rfl) x;obtain⟨n,rfl,rfl,rfl,r⟩:=open_string Tryz.underlying9 (a 0 9 A rfl rfl) w;clear f b;simp only[List.append_nil]at g;have E:n.size<=140737488351232:=by
  have:=sized_string i (j:=0) (t:=9) rfl rfl
  simpa[reachBytes] using this
 refine(Qit n (by omega) z W).mono fun e W' ⟨he,hg⟩=>?_;subst he;refine⟨_,rfl,_,_,_,[],[],[],g,?_,?_,rfl,hg.frame _,fun h=>by cases h⟩
 ·exact trodAll_mk1 (shut_bool Tryz.underlying4 _)
 ·exact trodAll_mk2 (shut_string Tryz.underlying9 r) (shut_int Tryz.underlying3 s)
theorem typesApart_holds:Rows.TypesApartSaid:=
 OpenClaim.holds_of_wide 7 Tryz.f7 rfl rfl rfl rfl rfl rfl rfl ⟨rfl,rfl,rfl,rfl,rfl⟩ rfl rfl rfl rfl rfl (by kernel_rfl) Tryz.func7 (by kernel_rfl)
  (of_decide_eq_true (by kernel_rfl)) (by unfold Func.isWrapper;first|(rw[if_pos (by decide +kernel)];kernel_rfl)|(rw[if_neg (by decide +kernel)];exact⟨rfl,rfl⟩))
  (fun c a H b _=>typesApart_lifted c a H b)
#print axioms typesApart_holds
end Go.Proofs.YtkhndlnadhggkaaGreat
