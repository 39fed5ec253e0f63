/- RelRefuses: the walk. The statement on RelRefuses: a note that is none is refused, and nothing comes. No condition. -/
import Derived.Test.YthcljhfankooaaaGreatMAliv
import Derived.Test.YthcljhfankooaaaGreatMFrame
namespace Go.Proofs.YthcljhfankooaaaGreat
open Go.RowKit Go.Shelf

theorem ordE_wide {n : Nat} (h : 8 < n) (l : List Int) : C.ordE (n : Int) l = 1 := if_pos (by omega)
theorem lookE_none (n : Nat) : C.lookE n [] = 0 := rfl

set_option maxRecDepth 100000 in
set_option maxHeartbeats 4000000 in
theorem refs_walk (w : World) (re im : Nat) (hr : W64 re) (hi : W64 im) (tv : Value) (t : List Int) (ht : IntsS (fun b => b < w.heap.size) w tv t) (hB : Bnd t) : Calls Tryz.prog 5 #[.float .f64 re, .float .f64 im, tv] w fun e w' => e = .returned (.bool true) ∧ Below w.heap.size w w' := by
  obtain ⟨ta, tc, etv, _⟩ := id ht
  subst etv
  by_cases hw : t.length ≤ 8
  · have hnew := new_iw w t.length (.slice none 0 0) [] (Ints.nil _ _) hw (lookE_none _)
    have hput := fun W rb h => put_iw w W rb t.length [] h _ t ht hB re im hr hi (.inr (by decide))
    have hhas := fun W rb ns h => has_iw w W rb t.length ns h _ t ht
    have hlen := fun W rb ns h => len_iw w W rb t.length ns h
    have hal := fun W rb ns h => alive_iw w W rb t.length ns h
    have hrh := fun w => rheight_any re im w
    cases c : hgtB re im with
    | false =>
      have E : rputB re im t t.length [] = false ∧ rputE re im t t.length [] = 1 ∧ rputTo re im t t.length [] = [] := ⟨by unfold rputB; simp [c], by unfold rputE; simp [c], by unfold rputTo; simp [c]⟩
      rw [E.1, E.2.1, E.2.2] at hput
      rw [c] at hrh
      generalize hgtN re im re = A at hrh
      generalize hgtN re im im = B at hrh
      clear hhas c E ht hB hr hi hw
      go_enter Tryz.func5, Tryz.ntmps5
      go_wp2_with fail
      refine hnew.mono ?_
      clear hnew
      rintro e w1 ⟨rb, rfl, h1⟩
      have hput := hput w1 rb h1
      clear h1
      go_wp2_with fail
      refine hput.mono ?_
      clear hput
      rintro e w2 ⟨rfl, h2⟩
      go_wp2_with fail
      refine (hrh _).mono ?_
      clear hrh
      rintro e w3 ⟨rfl, hw3⟩
      subst hw3
      have hlen := hlen _ rb _ h2
      clear h2
      go_wp2_with fail
      refine hlen.mono ?_
      clear hlen
      rintro e w4 ⟨rfl, h4⟩
      have hal := hal _ rb _ h4
      clear h4
      go_wp2_with fail
      refine hal.mono ?_
      clear hal
      rintro e w5 ⟨rfl, h5⟩
      have H5 := hide h5.below
      clear h5
      go_wp2_with fail
      go_ret
      exact ⟨rfl, unhide H5⟩
    | true =>
      have E : rputB re im t t.length [] = true ∧ rputE re im t t.length [] = 0 ∧ rputTo re im t t.length [] = [(t, partN re, partN im)] := ⟨by unfold rputB; simp [c, putB, getN], by unfold rputE; simp [c, putE, getN], by unfold rputTo; simp [c, putTo, getN]⟩
      have F : ntcB t t.length [(t, partN re, partN im)] = true := by unfold ntcB; simp [getN]
      rw [E.1, E.2.1, E.2.2] at hput
      rw [c] at hrh
      generalize hgtN re im re = A at hrh
      generalize hgtN re im im = B at hrh
      clear hlen c E ht hB hr hi hw
      go_enter Tryz.func5, Tryz.ntmps5
      go_wp2_with fail
      refine hnew.mono ?_
      clear hnew
      rintro e w1 ⟨rb, rfl, h1⟩
      have hput := hput w1 rb h1
      clear h1
      go_wp2_with fail
      refine hput.mono ?_
      clear hput
      rintro e w2 ⟨rfl, h2⟩
      go_wp2_with fail
      refine (hrh _).mono ?_
      clear hrh
      rintro e w3 ⟨rfl, hw3⟩
      subst hw3
      have hhas := hhas _ rb [(t, partN re, partN im)] h2
      rw [F] at hhas
      clear h2 F
      go_wp2_with fail
      refine hhas.mono ?_
      clear hhas
      rintro e w4 ⟨rfl, h4⟩
      have hal := hal _ rb _ h4
      clear h4
      go_wp2_with fail
      refine hal.mono ?_
      clear hal
      rintro e w5 ⟨rfl, h5⟩
      have H5 := hide h5.below
      clear h5
      go_wp2_with fail
      go_ret
      exact ⟨rfl, unhide H5⟩
  · have hw : 8 < t.length := by omega
    have hno := relnew_no w (t.length : Int) (.slice none 0 0) [] (Ints.nil _ _) (by rw [ordE_wide hw]; decide)
    rw [ordE_wide hw] at hno
    have hg : (8 : Int) < (t.length : Int) := by omega
    have hal := fun W => alive_any W
    clear ht hB hr hi hw
    go_enter Tryz.func5, Tryz.ntmps5
    go_wp2_with fail
    refine hno.mono ?_
    clear hno
    rintro e w1 ⟨rfl, hw1⟩
    subst hw1
    go_wp2_with fail
    refine (hal _).mono ?_
    clear hal
    rintro e w5 ⟨rfl, h5⟩
    have H5 := hide h5
    clear h5
    go_wp2_with fail
    go_ret
    exact ⟨rfl, unhide H5⟩
end Go.Proofs.YthcljhfankooaaaGreat

namespace Go.Proofs.YthcljhfankooaaaGreat
open Go.ChangeShapes Go.WideShapes Go.ChangeAt Go.RowKit

set_option maxRecDepth 100000 in
theorem relRefuses_lifted (os : Os) (started : os.Started) (H : Type) (enc : TypeId × Value → H) :
    ReturnsInHanded {} Tryz.checked os 5 .any (Rows.relRefusesSpec.pre6 enc Tryz.prog Tryz.f5 Rows.relRefusesRow.domain false) (Rows.relRefusesSpec.post enc Tryz.prog Tryz.f5 false true false false) := by
  refine returnsInHanded_of_change_sized (C := Tryz.checked) own started (by kernel_rfl) Tryz.func5
    (ChangeSpec.witness6 (enc := enc) (C := Tryz.checked) false ⟨#[], #[.float .f64 0, .float .f64 0, .slice none 0 0], []⟩ 8 (by kernel_rfl) (by kernel_rfl) (by kernel_rfl) (by kernel_rfl)) ?_
  intro W base args ds gs before hval0 hW _ hsz0 _
  have hsz : (DataW.weightsEach Tryz.prog (Tryz.f5.params.toList ++ Rows.relRefusesSpec.plain.varTypes Tryz.prog) (ds ++ gs)).all (· ≤ reachBytes) = true := hsz0
  clear hsz0
  have hval : ∀ (j : Nat) t v, Tryz.f5.params[j]? = some t → args[j]? = some v → Value.okWide Tryz.prog W .any base t v := hval0
  have hW' := hW
  obtain ⟨p, q, hA0, hV, rfl, _, _⟩ := hW
  have hA : DataW.TrodAll enc Tryz.prog W 0 (fun _ => true) true Tryz.f5.params.toList args.toList ds p := hA0
  rw [Tryz.params5] at hA hval hsz
  obtain ⟨v0, v1, v2, d0, d1, d2, p0, p1, p2, rfl, rfl, rfl, h0, h1, h2⟩ := trodAll_three hA
  obtain ⟨rfl, rfl⟩ := trodVars_none hV
  obtain ⟨b0, rfl, rfl, rfl, wf0⟩ := open_float Tryz.underlying47 (hval 0 47 v0 rfl rfl) h0
  obtain ⟨b1, rfl, rfl, rfl, wf1⟩ := open_float Tryz.underlying47 (hval 1 47 v1 rfl rfl) h1
  obtain ⟨a2, len2, cap2, rfl⟩ := okWide_slice Tryz.underlying23 (hval 2 23 v2 rfl rfl)
  clear hA0 hval0
  simp only [List.append_nil, List.nil_append] at hW'
  have lt2 : ∀ x ∈ p2, x.block < W.heap.size := fun x hx => hW'.lt x (by simp [hx])
  obtain ⟨l2, hl2, hB2, hz2⟩ := slice_of h2 rfl lt2
  clear hz2
  refine (refs_walk W b0 b1 (w64_of wf0) (w64_of wf1) _ l2 hl2 hB2).mono fun e W' ⟨he, hg⟩ => ?_
  subst he
  refine ⟨_, rfl, _, _, _, [], p2, [], hW', ?_, ?_, rfl, hg.frame _, fun h => by cases h⟩
  · exact trodAll_mk1 (shut_bool Tryz.underlying4 _)
  · have := trodAll_mk3 (shut_float Tryz.underlying47 wf0) (shut_float Tryz.underlying47 wf1) (Below.trod laidOut (by kernel_rfl) (of_decide_eq_true (by kernel_rfl)) h2 hg lt2)
    simp only [List.nil_append] at this
    exact this

theorem relRefuses_holds : Rows.RelRefusesSaid :=
  OpenClaim.holds_of_wide 5 Tryz.f5 rfl rfl rfl rfl rfl rfl rfl ⟨rfl, rfl, rfl, rfl, rfl⟩ rfl rfl rfl rfl rfl (by kernel_rfl) Tryz.func5 (by kernel_rfl)
    (of_decide_eq_true (by kernel_rfl)) (by unfold Func.isWrapper; first | (rw [if_pos (by decide +kernel)]; kernel_rfl) | (rw [if_neg (by decide +kernel)]; exact ⟨rfl, rfl⟩))
    (fun os started H enc _ => relRefuses_lifted os started H enc)
#print axioms relRefuses_holds
end Go.Proofs.YthcljhfankooaaaGreat
