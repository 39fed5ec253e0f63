/- The statement on TypesBounds: of every text, where the types of its program are right, a variable's type is below that of each column of an atom in which it stands itself. No condition. -/
import Derived.Test.YtmfpbepifnedjaaGreatZv01
import Derived.Test.YtmfpbepifnedjaaGreatZv51
import Derived.SizedLaws
namespace Go.Proofs.YtmfpbepifnedjaaGreat
open Go.ChangeShapes Go.WideShapes Go.ChangeAt Go.RowKit
open Go.ChangeMaps (open_string shut_string)
set_option maxRecDepth 100000 in
theorem typesBounds_lifted(os:Os)(started:os.Started)(H:Type)(enc:TypeId×Value->H):
  ReturnsInHanded {} Tryz.checked os 6 .any (Rows.typesBoundsSpec.pre6 enc Tryz.prog Tryz.f6 Rows.typesBoundsRow.domain false) (Rows.typesBoundsSpec.post enc Tryz.prog Tryz.f6 false true false false):=by
 refine returnsInHanded_of_change_sized (C:=Tryz.checked) own started (by kernel_rfl) Tryz.func6
  (ChangeSpec.witness6 (enc:=enc) (C:=Tryz.checked) false ⟨#[],#[Je],[]⟩ 8 (by kernel_rfl) (by kernel_rfl) (by kernel_rfl) (by kernel_rfl)) ?_
 intro W base b k r x a m _ c _;have i:(DataW.weightsEach Tryz.prog (Tryz.f6.params.toList++Rows.typesBoundsSpec.plain.varTypes Tryz.prog) (k++r)).all (· <= reachBytes)=true:=c;clear c;have d:∀(j:Nat) t v,Tryz.f6.params[j]?=some t->b[j]?=some v->Value.okWide Tryz.prog W .any base t v:=a;have g:=m;obtain⟨p,q,f,u,rfl,_,_⟩:=m;have l:DataW.TrodAll enc Tryz.prog W 0 (fun _=>true) true Tryz.f6.params.toList b.toList k p:=f;rw[Tryz.params6]at l d i;obtain⟨w,z,rfl,rfl,s⟩:=trodAll_one l;obtain⟨rfl,rfl⟩:=trodVars_none u;obtain⟨n,rfl,rfl,rfl,o⟩:=open_string Tryz.underlying9 (d 0 9 w rfl rfl) s;clear f a;simp only[List.append_nil]at g;have y:n.size<=140737488351232:=by
  have:=sized_string i (j:=0) (t:=9) rfl rfl
  simpa[reachBytes] using this
 refine(Qhz n (by omega) W).mono fun e W' ⟨he,hg⟩=>?_;subst he;refine⟨_,rfl,_,_,_,[],[],[],g,?_,?_,rfl,hg.frame _,fun h=>by cases h⟩
 ·exact trodAll_mk1 (shut_bool Tryz.underlying4 _)
 ·exact trodAll_mk1 (shut_string Tryz.underlying9 o)
theorem typesBounds_holds:Rows.TypesBoundsSaid:=
 OpenClaim.holds_of_wide 6 Tryz.f6 rfl rfl rfl rfl rfl rfl rfl ⟨rfl,rfl,rfl,rfl,rfl⟩ rfl rfl rfl rfl rfl (by kernel_rfl) Tryz.func6 (by kernel_rfl)
  (of_decide_eq_true (by kernel_rfl)) (by unfold Func.isWrapper;first|(rw[if_pos (by decide +kernel)];kernel_rfl)|(rw[if_neg (by decide +kernel)];exact⟨rfl,rfl⟩))
  (fun c a H b _=>typesBounds_lifted c a H b)
#print axioms typesBounds_holds
end Go.Proofs.YtmfpbepifnedjaaGreat
