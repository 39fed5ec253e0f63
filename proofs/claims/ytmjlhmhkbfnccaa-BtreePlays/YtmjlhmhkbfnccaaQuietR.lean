/- The document's comparison only reads. -/
import Derived.Test.YtmjlhmhkbfnccaaHeads
import Derived.BigQuiet
namespace Go.Proofs.Ytmjlhmhkbfnccaa
open Go.RowKit

def QRel2 (w : World) (o s t : List Int) (i : Value) (wr : World) : Prop := ∃ k : Nat, k ≤ o.length ∧ i = .int .i64 k ∧ cmpTo o s t 0 = cmpTo o s t k ∧ ∃ m, wr = w.drewN m

set_option maxRecDepth 100000 in
set_option maxHeartbeats 4000000 in
theorem rcmp_q (B : Nat) (w : World) (u v z : Value) (o s t : List Int) (hB : B ≤ w.heap.size) (ho : Ints B w u o) (hs : Ints B w v s) (ht : Ints B w z t) :
    Calls Try.prog 20 #[u, v, z] w fun e w' => e = .returned (.int .i64 (cmpA o s t)) ∧ ∃ m, w' = w.drewN m := by
  have HO := hide ho
  have HS := hide hs
  have HT := hide ht
  obtain ⟨a, cap, rfl, hc1, hc2, _⟩ := ho
  obtain ⟨a2, cap2, rfl, hd1, hd2, _⟩ := hs
  obtain ⟨a3, cap3, rfl, he1, he2, _⟩ := ht
  go_enter Try.func20, Try.ntmps20
  go_wp2_with fail
  refine (fits_any B w _ _ _ o s t (unhide HO) (unhide HS) (unhide HT)).mono ?_
  rintro e w' ⟨rfl, rfl⟩
  cases hf : fitN o [s.length, t.length] with
  | false =>
    have H := hide (cmpA_not hf)
    clear hf
    go_wp2_with fail
    go_ret
    exact ⟨ret_int (unhide H).symm, 0, rfl⟩
  | true =>
    have HF := hide hf
    clear hf
    go_wp2_with fail
    go_loopw [7] (fun i wr => QRel2 w' o s t i wr) (fun i _ => o.length - (intOf i).toNat)
    case atStart => exact ⟨0, Nat.zero_le _, rfl, rfl, 0, rfl⟩
    case round =>
      obtain ⟨k, hk, rfl, hq, m, hm⟩ := hrel
      have hb : Below w'.heap.size w' wr := by rw [hm]; exact below_drewN (Below.refl _ _) m
      have HM := hide hm
      clear hm
      have HQ := hide hq
      clear hq
      by_cases hlt : k < o.length
      · obtain ⟨b0, o0, b1, o1, b2, o2, x, rfl, rfl, rfl, hx, x0, x1, x2, y0, y1, y2⟩ := cols3 ((unhide HO).below hb hB) ((unhide HS).below hb hB) ((unhide HT).below hb hB) (unhide HF) hlt
        have HC := hide (cmpTo_step (a := s) (b := t) hlt)
        rw [← hx] at HC
        clear hx hb
        generalize at_ s x = p at *
        generalize at_ t x = q at *
        by_cases h1 : p < q
        · have HN : Hid (cmpA o s t = -1) := by show _ = _; rw [cmpA_fit (unhide HF), unhide HQ, unhide HC, if_pos h1]
          go_wp2_with fail
          go_quiet (fail)
          go_wp2_with fail
          go_ret
          exact ⟨ret_int (unhide HN).symm, _, by rw [unhide HM, World.drewN_drewN]⟩
        · by_cases h2 : q < p
          · have HN : Hid (cmpA o s t = 1) := by show _ = _; rw [cmpA_fit (unhide HF), unhide HQ, unhide HC, if_neg h1, if_pos h2]
            go_wp2_with fail
            go_quiet (fail)
            go_wp2_with fail
            go_ret
            exact ⟨ret_int (unhide HN).symm, _, by rw [unhide HM, World.drewN_drewN]⟩
          · have HN : Hid (cmpTo o s t 0 = cmpTo o s t (k + 1)) := by show _ = _; rw [unhide HQ, unhide HC, if_neg h1, if_neg h2]
            go_wp2_with fail
            go_quiet (fail)
            go_wp2_with fail
            go_roundw
            case rel => exact ⟨k + 1, by omega, by go_num, unhide HN, _, by rw [unhide HM, World.drewN_drewN]⟩
            case measure => simp [intOf]; omega
      · have hk2 : k = o.length := by omega
        subst hk2
        have HN : Hid (cmpA o s t = 0) := by show _ = _; rw [cmpA_fit (unhide HF), unhide HQ, cmpTo_end]
        clear hb
        go_wp2_with fail
        go_ret
        exact ⟨ret_int (unhide HN).symm, _, unhide HM⟩
end Go.Proofs.Ytmjlhmhkbfnccaa
