/- The walk of TupleTurns. -/
import Derived.Test.YtklmhgljhmodlaaHeadsW
namespace Go.Proofs.Ytklmhgljhmodlaa
open Go.RowKit

theorem sameB_of {l m : List Int} (h : l = m) : sameB l m = true := decide_eq_true h
/-- The plain order, as far as k numbers go. -/
def plTo (n k : Nat) : List Int := (plain n).take k ++ List.replicate (n - k) 0
theorem plTo_length {n k : Nat} (hk : k ≤ n) : (plTo n k).length = n := by simp [plTo, plain_length]; omega
theorem plTo_zero (n : Nat) : plTo n 0 = List.replicate n 0 := by simp [plTo]
theorem plTo_end (n : Nat) : plTo n n = plain n := by simp [plTo, plain_length, List.take_of_length_le]
theorem plTo_next {n k : Nat} (hk : k < n) : (plTo n k).set k (k : Int) = plTo n (k + 1) := by
  unfold plTo
  have e : (List.take k (plain n)).length = k := by simp [plain_length]; omega
  rw [List.take_succ_eq_append_getElem (by simpa [plain_length] using hk), List.set_append_right _ _ (by omega), e, Nat.sub_self, show n - k = (n - (k + 1)) + 1 by omega, List.replicate_succ]
  simp [plain]
def PRel (W w0 : World) (g n : Nat) (i : Value) (wr : World) : Prop := ∃ k : Nat, k ≤ n ∧ i = .int .i64 k ∧ OwnI w0.heap.size wr (.slice (some ⟨g, 0, none⟩) n n) (plTo n k) ∧ Below W.heap.size W wr

theorem turns_cmp {o s t : List Int} (hr : right o = true) (h1 : s.length = o.length) (h2 : t.length = o.length) : cmpA (plain o.length) (turnA o s) (turnA o t) = cmpA o s t := by
  rw [turnA_fit (fitN_mk1 h1 hr), turnA_fit (fitN_mk1 h2 hr)]
  rw [cmpA, if_pos (fitN_mk2 (by rw [turn_length, plain_length]) (by rw [turn_length, plain_length]) (plain_right _ (right_in hr).1)), cmpA, if_pos (fitN_mk2 h1 h2 hr)]
  have e1 := turn_plain (turn o s)
  have e2 := turn_plain (turn o t)
  rw [turn_length] at e1 e2
  rw [e1, e2]
theorem turns_back {o s : List Int} (hr : right o = true) (h1 : s.length = o.length) : backA o (turnA o s) = s := by
  rw [turnA_fit (fitN_mk1 h1 hr), backA_fit (fitN_mk1 (turn_length o s) hr), back_turn hr h1]
theorem back_turns {o s : List Int} (hr : right o = true) (h1 : s.length = o.length) : turnA o (backA o s) = s := by
  rw [backA_fit (fitN_mk1 h1 hr), turnA_fit (fitN_mk1 (by rw [back, backTo_length]) hr), turn_back hr h1]

set_option maxRecDepth 100000 in
set_option maxHeartbeats 4000000 in
theorem turns_walk (W : World) (v0 v1 v2 : Value) (o s t : List Int) (h0 : Ints W.heap.size W v0 o) (h1 : Ints W.heap.size W v1 s) (h2 : Ints W.heap.size W v2 t) :
    Calls Try.prog 6 #[v0, v1, v2] W fun e w' => e = .returned (.bool true) ∧ Below W.heap.size W w' := by
  have H0 := hide h0
  have H1 := hide h1
  have H2 := hide h2
  obtain ⟨a0, cap0, rfl, _, _, _⟩ := h0
  obtain ⟨a1, cap1, rfl, _, _, _⟩ := h1
  obtain ⟨a2, cap2, rfl, _, _, _⟩ := h2
  obtain ⟨i0, hi, hz0, hz1, hz2⟩ := info_parts info3
  have HI := hide (And.intro hi (And.intro hz0 (And.intro hz1 hz2)))
  clear hi hz0 hz1 hz2
  go_enter Try.func6, Try.ntmps6
  go_wp2_with fail
  refine (right_any _ W _ o (unhide H0)).mono ?_
  rintro e w' ⟨rfl, rfl⟩
  cases hr : right o with
  | false =>
    clear hr
    go_wp2_with fail
    refine (alive_any w').mono ?_
    rintro e w2 ⟨rfl, b2⟩
    go_wp2_with fail
    go_ret
    exact ⟨rfl, b2⟩
  | true =>
    have HR := hide hr
    have h8 := (right_in hr).1
    clear hr
    cases e1 : ((s.length : Int) != (o.length : Int)) with
    | true =>
      go_wp2_with fail
      refine (alive_any w').mono ?_
      rintro e w2 ⟨rfl, b2⟩
      go_wp2_with fail
      go_ret
      exact ⟨rfl, b2⟩
    | false =>
      cases e2 : ((t.length : Int) != (o.length : Int)) with
      | true =>
        go_wp2_with fail
        refine (alive_any w').mono ?_
        rintro e w2 ⟨rfl, b2⟩
        go_wp2_with fail
        go_ret
        exact ⟨rfl, b2⟩
      | false =>
        have HE := hide (And.intro (len_ne e1) (len_ne e2))
        go_wp2_with (at_make; refine wpList_make_full _ rfl _ _ 22 rfl w'.heap.size 3 i0 (.int .i64 0) 1 Try.underlying22 (unhide HI).1 (unhide HI).2.1 (unhide HI).2.2.1 _ _ _ _ o.length rfl rfl rfl rfl (by rw [(unhide HI).2.2.2]; omega) (by unfold maxLen; omega) (Nat.le_refl _) ?_; intro w2 hown hgrow)
        have b2 : Below w'.heap.size w' w2 := (Below.refl _ _).grown hgrow (Nat.le_refl _) (fun k e => by cases e)
        have hO := OwnI.made hown
        rw [← plTo_zero] at hO
        obtain ⟨g, hg⟩ : ∃ g, g = w'.heap.size := ⟨_, rfl⟩
        have HO2 : Hid (OwnI w'.heap.size w2 (.slice (some ⟨g, 0, none⟩) o.length o.length) (plTo o.length 0)) := by rw [hg]; exact hO
        rw [← hg]
        have B2 := hide b2
        clear hown hgrow b2 hO hg e1 e2
        go_wp2_with fail
        go_loopw [34] (fun i wr => PRel w' w' g o.length i wr) (fun i _ => o.length - (intOf i).toNat)
        case atStart => exact ⟨0, Nat.zero_le _, rfl, unhide HO2, unhide B2⟩
        case round =>
          obtain ⟨k, hk, rfl, hr, hb⟩ := hrel
          have HRW := hide hr
          have HB := hide hb
          clear HO2 B2
          by_cases hlt : k < o.length
          · obtain ⟨z0, z1⟩ := hr.cell (j := k) (by rw [plTo_length hk]; exact hlt)
            have HN := hide (plTo_next hlt)
            generalize (plTo o.length k)[k]'_ = c0 at z0
            clear hb hr
            go_wp2_with fail
            go_roundw
            case rel =>
              refine ⟨k + 1, by omega, by go_num, ?_, (unhide HB).setCell (OwnI.base_le (unhide HRW)) _⟩
              rw [← unhide HN]
              exact (unhide HRW).stored (plTo_length hk).symm k k
            case measure => simp [intOf]; omega
          · have hk2 : k = o.length := by omega
            have HP : Hid (Ints wr.heap.size wr (.slice (some ⟨g, 0, none⟩) o.length o.length) (plain o.length)) := by
              show Ints _ _ _ _
              rw [← plTo_end]
              rw [hk2] at hr
              exact hr.ints
            clear hk2 hr HRW
            have c1 := hb
            clear hb HB
            go_wp2_with fail
            refine (turn_any w'.heap.size wr _ _ o s c1.size ((unhide H0).below c1 (Nat.le_refl _)) ((unhide H1).below c1 (Nat.le_refl _))).mono ?_
            rintro e w3 ⟨x, rfl, o3, b3⟩
            have c3 : Below w'.heap.size w' w3 := c1.trans (b3.mono c1.size)
            have P3 := hide (((unhide HP).below b3 (Nat.le_refl _)).mono b3.size)
            have X3 := hide o3.ints
            clear o3 b3 c1 HP
            go_wp2_with fail
            refine (turn_any w'.heap.size w3 _ _ o t c3.size ((unhide H0).below c3 (Nat.le_refl _)) ((unhide H2).below c3 (Nat.le_refl _))).mono ?_
            rintro e w4 ⟨y, rfl, o4, b4⟩
            have c4 : Below w'.heap.size w' w4 := c3.trans (b4.mono c3.size)
            have P4 := hide (((unhide P3).below b4 (Nat.le_refl _)).mono b4.size)
            have X4 := hide (((unhide X3).below b4 (Nat.le_refl _)).mono b4.size)
            have Y4 := hide o4.ints
            clear o4 b4 c3 P3 X3
            go_wp2_with fail
            refine (back_any w4.heap.size w4 _ _ o (turnA o s) (Nat.le_refl _) (((unhide H0).below c4 (Nat.le_refl _)).mono c4.size) (unhide X4)).mono ?_
            rw [turns_back (unhide HR) (unhide HE).1]
            rintro e w5 ⟨z, rfl, o5, b5⟩
            have c5 : Below w'.heap.size w' w5 := c4.trans (b5.mono c4.size)
            have P5 := hide (((unhide P4).below b5 (Nat.le_refl _)).mono b5.size)
            have X5 := hide (((unhide X4).below b5 (Nat.le_refl _)).mono b5.size)
            have Y5 := hide (((unhide Y4).below b5 (Nat.le_refl _)).mono b5.size)
            have Z5 := hide o5.ints
            clear o5 b5 c4 P4 X4 Y4
            go_wp2_with fail
            refine (same_any w5.heap.size w5 _ _ s s (Nat.le_refl _) (unhide Z5) (((unhide H1).below c5 (Nat.le_refl _)).mono c5.size)).mono ?_
            rw [sameB_of rfl]
            rintro e w6 ⟨rfl, b6⟩
            have c6 : Below w'.heap.size w' w6 := c5.trans (b6.mono c5.size)
            have P6 := hide (((unhide P5).below b6 (Nat.le_refl _)).mono b6.size)
            have X6 := hide (((unhide X5).below b6 (Nat.le_refl _)).mono b6.size)
            have Y6 := hide (((unhide Y5).below b6 (Nat.le_refl _)).mono b6.size)
            clear b6 c5 P5 X5 Y5 Z5
            go_wp2_with fail
            refine (back_any w'.heap.size w6 _ _ o s c6.size ((unhide H0).below c6 (Nat.le_refl _)) ((unhide H1).below c6 (Nat.le_refl _))).mono ?_
            rintro e w7 ⟨q, rfl, o7, b7⟩
            have c7 : Below w'.heap.size w' w7 := c6.trans (b7.mono c6.size)
            have P7 := hide (((unhide P6).below b7 (Nat.le_refl _)).mono b7.size)
            have X7 := hide (((unhide X6).below b7 (Nat.le_refl _)).mono b7.size)
            have Y7 := hide (((unhide Y6).below b7 (Nat.le_refl _)).mono b7.size)
            have Z7 := hide o7.ints
            clear b7 c6 P6 X6 Y6 o7
            go_wp2_with fail
            refine (turn_any w7.heap.size w7 _ _ o (backA o s) (Nat.le_refl _) (((unhide H0).below c7 (Nat.le_refl _)).mono c7.size) (unhide Z7)).mono ?_
            rw [back_turns (unhide HR) (unhide HE).1]
            rintro e w8 ⟨q8, rfl, o8, b8⟩
            have c8 : Below w'.heap.size w' w8 := c7.trans (b8.mono c7.size)
            have P8 := hide (((unhide P7).below b8 (Nat.le_refl _)).mono b8.size)
            have X8 := hide (((unhide X7).below b8 (Nat.le_refl _)).mono b8.size)
            have Y8 := hide (((unhide Y7).below b8 (Nat.le_refl _)).mono b8.size)
            have Z8 := hide o8.ints
            clear b8 c7 P7 X7 Y7 Z7 o8
            go_wp2_with fail
            refine (same_any w8.heap.size w8 _ _ s s (Nat.le_refl _) (unhide Z8) (((unhide H1).below c8 (Nat.le_refl _)).mono c8.size)).mono ?_
            rw [sameB_of rfl]
            rintro e w9 ⟨rfl, b9⟩
            have c9 : Below w'.heap.size w' w9 := c8.trans (b9.mono c8.size)
            have P9 := hide (((unhide P8).below b9 (Nat.le_refl _)).mono b9.size)
            have X9 := hide (((unhide X8).below b9 (Nat.le_refl _)).mono b9.size)
            have Y9 := hide (((unhide Y8).below b9 (Nat.le_refl _)).mono b9.size)
            clear b9 c8 P8 X8 Y8 Z8
            go_wp2_with fail
            refine (cmp_any w9.heap.size w9 _ _ _ (plain o.length) (turnA o s) (turnA o t) (Nat.le_refl _) (unhide P9) (unhide X9) (unhide Y9)).mono ?_
            rw [turns_cmp (unhide HR) (unhide HE).1 (unhide HE).2]
            rintro e wA ⟨rfl, bA⟩
            have cA : Below w'.heap.size w' wA := c9.trans (bA.mono c9.size)
            clear bA c9 P9 X9 Y9
            go_wp2_with fail
            refine (cmp_any w'.heap.size wA _ _ _ o s t cA.size ((unhide H0).below cA (Nat.le_refl _)) ((unhide H1).below cA (Nat.le_refl _)) ((unhide H2).below cA (Nat.le_refl _))).mono ?_
            rintro e wB ⟨rfl, bB⟩
            have cB : Below w'.heap.size w' wB := cA.trans (bB.mono cA.size)
            clear bB cA
            generalize cmpA o s t = m
            go_wp2_with fail
            refine (alive_any wB).mono ?_
            rintro e wC ⟨rfl, bC⟩
            have cC : Below w'.heap.size w' wC := cB.trans (bC.mono cB.size)
            clear bC cB
            go_wp2_with fail
            go_ret
            exact ⟨rfl, cC⟩
end Go.Proofs.Ytklmhgljhmodlaa
