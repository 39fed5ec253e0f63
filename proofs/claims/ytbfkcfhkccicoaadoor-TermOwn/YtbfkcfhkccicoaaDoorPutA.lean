/- Putting a value into a store: put, Put. -/
import Derived.Test.YtbfkcfhkccicoaaDoorPutP
import Derived.Test.YtbfkcfhkccicoaaDoorPutX
import Derived.Deep.RegionWith
namespace Go.Proofs.YtbfkcfhkccicoaaDoor
open Go.RowKit Go.Maps Go.WideMaps

theorem putNode_any : PutNodeC := fun W p S h ok word n hw hn => by
  cases hf : (findV S word n).2 with
  | true => exact putNode_old h word n hw hn (.inl hf)
  | false =>
    by_cases hl : 16384 ≤ S.ns.length
    · exact putNode_old h word n hw hn (.inr hl)
    · exact putNode_new h ok word n hw hn hf (by omega)

theorem putV_ok_all : ∀ v : V, ∀ d : Nat, v.may d = true → ∀ S : SS, S.Ok → (v.putV S).2.Ok := by
  refine V.ind fun v ih d hm S ok => ?_
  refine putV_ok v S ok (kinds_of hm) (fun i hi S2 ok2 => ?_)
  rcases kinds_of hm with h | h | h
  · have := (may_num0 hm h).2; omega
  · have := (may_sym0 hm h).2; omega
  · exact ih i hi (d - 1) (may_kids hm h i hi) S2 ok2

theorem put_any : ∀ v : V, PutC v := by
  refine V.ind fun v ih B W p S d hat hB hu h ok hm => ?_
  rcases kinds_of hm with hk | hk | hk
  · exact put_num v W p S h hk
  · refine put_sym v W p S h hk ?_
    rw [V.may_eq, if_neg (by omega), if_pos hk] at hm
    simp only [Bool.and_eq_true, decide_eq_true_eq] at hm
    exact hm.2
  · exact put_con putNode_any v ih B W p S d hat hB hu h ok hm hk (fun i hi S2 ok2 => putV_ok_all _ (d - 1) (may_kids hm hk i hi) S2 ok2)

/-- Put: of any value. -/
def putAll (v : V) (S : SS) : (Int × Int) × SS := if v.right then v.putV S else ((0, 1), S)
theorem putAll_ok {v : V} {S : SS} (ok : S.Ok) : (putAll v S).2.Ok := by
  unfold putAll
  cases h : v.right with
  | true => exact putV_ok_all v 32 (right_may h) S ok
  | false => exact ok

set_option maxRecDepth 100000 in
set_option maxHeartbeats 4000000 in
theorem sput_any (v : V) (B : Nat) (W : World) (p : SP) (S : SS) (hat : v.At B W) (hB : B ≤ W.heap.size) (hu : ∀ k, v.uses k → ¬ p.own k) (h : Sto W p S) (ok : S.Ok) :
    Calls Tryd.prog 8 #[.pointer (some ⟨p.sb, 0, none⟩), v.val] W fun e w' => e = .returned (.tuple #[.int .i64 (putAll v S).1.1, .int .i64 (putAll v S).1.2]) ∧ ∃ p', Sto w' p' (putAll v S).2 ∧ Step W w' p p' := by
  have b1 := below_box W v.obj
  have HX := hide (boxed W v)
  have hmade := smade_any (h.later b1)
  have hr := right_any v B (W.alloc v.obj) (hat.below (b1.mono hB)) (by simp; omega)
  have HM := hide hmade
  have HR := hide hr
  clear hmade hr
  go_enter Tryd.func8, Tryd.ntmps8
  go_wp2_with fail
  refine (unhide HM).mono ?_
  rintro e w' ⟨rfl, rfl⟩
  go_wp2_with fail
  refine (unhide HR).mono ?_
  rintro e w2 ⟨rfl, b2⟩
  have bw : Below W.heap.size W w2 := b1.trans (b2.mono (by simp))
  have hx := ((unhide HX).below b2 (by simp)).z
  have h2 := h.later bw
  clear b1 b2 HM HR HX
  cases hr : v.right with
  | false =>
    have H : Hid (putAll v S = ((0, 1), S)) := by show _ = _; unfold putAll; rw [hr]; rfl
    have H2 := hide h2
    clear h2 hx
    go_wp2_with fail
    go_ret2
    refine ⟨ret_ii' (by rw [unhide H]), p, ?_, (Step.refl W p).after bw⟩
    rw [unhide H]; exact unhide H2
  | true =>
    have H : Hid (putAll v S = v.putV S) := by show _ = _; unfold putAll; rw [hr]; rfl
    obtain ⟨x0, x1, x2, x3⟩ := hx
    have c0 := h2.c0
    have hput : Hid (Calls Tryd.prog 23 #[.pointer (some ⟨p.hb, 0, none⟩), v.val] w2.drew fun e w' => e = .returned (.tuple #[.int .i64 (v.putV S).1.1, .int .i64 (v.putV S).1.2]) ∧ ∃ p', Sto w' p' (v.putV S).2 ∧ Step W w' p p') := by
      show Calls _ _ _ _ _
      refine (put_any v B w2.drew p S 32 (hat.below (bw.drew.mono hB)) (by have := bw.size; show B ≤ w2.heap.size; omega) hu (h.later bw.drew) ok (right_may hr)).mono ?_
      rintro e w' ⟨rfl, p', hs, st⟩
      exact ⟨rfl, p', hs, st.before bw.drew⟩
    have H2 := hide h2
    clear h2
    go_wp2_with fail
    go_region_with (go_at_call 23; refine (unhide hput).mono ?_; rintro e w' ⟨rfl, hw⟩)
    all_goals
      go_wp2_with fail
      go_ret2
      refine ⟨ret_ii' (by rw [unhide H]), ?_⟩
      rw [unhide H]; exact hw
end Go.Proofs.YtbfkcfhkccicoaaDoor
