/- Walks of how two values stand, as the document has it: stand of two Cons, Order. -/
import Derived.Test.YtbfkcfhkccicoaaDoorStd
namespace Go.Proofs.YtbfkcfhkccicoaaDoor
open Go.RowKit

/-- The number at the head of the loop. -/
def std0 (a b : V) : Int := if cmpS a.str b.str = 0 then cmpI (a.len : Int) (b.len : Int) else cmpS a.str b.str
theorem std0_len {a b : V} (h : std0 a b = 0) : a.len = b.len := by
  unfold std0 at h
  split at h
  · have := cmpI_zero.1 h; omega
  · contradiction

/-- The loop's state. -/
def SRel (w : World) (a b : V) (i n : Value) (wr : World) : Prop :=
  ∃ k : Nat, k ≤ a.len ∧ i = .int .i64 k ∧ n = .int .i64 (firstTo (fun i => (a.kid i).std (b.kid i)) k (std0 a b)) ∧ Two w wr a b

open Go.BigFrame in
set_option maxRecDepth 100000 in
set_option maxHeartbeats 8000000 in
theorem std_con (a : V) (ih : ∀ i, i < a.len → StdC (a.kid i)) (b : V) (B : Nat) (w : World) (ha : a.At B w) (hb : b.At B w) (hB : B ≤ w.heap.size) (hk : a.kind = b.kind) (h1 : a.kind = 3) :
    Calls Tryd.prog 54 #[a.val, b.val] w fun e w' => e = .returned (.int .i64 (a.std b)) ∧ Below w.heap.size w w' := by
  have hla := ha.flat.l
  have hlb := hb.flat.l
  have H : Hid (a.std b = firstTo (fun i => (a.kid i).std (b.kid i)) a.len (std0 a b)) := by
    show _ = _
    rw [V.std_eq, if_pos hk, if_neg (by omega), if_neg (by omega), if_pos h1]; rfl
  have h2 : b.kind = 3 := by omega
  have T := hide (two_boxes w a b)
  have IH := hide ih
  have HK := hide hk
  clear hk ih
  unfold V.val
  generalize hA1 : a.addr = A1
  generalize hA2 : b.addr = A2
  have HA1 := hide hA1
  have HA2 := hide hA2
  clear hA1 hA2
  have HT : Hid (Two w ((w.alloc (.cells #[.int .i64 3, .int .i64 a.num, .string a.str, .slice A1 a.len a.cap] 32)).alloc (.cells #[.int .i64 3, .int .i64 b.num, .string b.str, .slice A2 b.len b.cap] 32)) a b) := by
    show Two _ _ _ _
    have := unhide T
    unfold V.obj at this
    rwa [h1, h2, unhide HA1, unhide HA2] at this
  clear T
  have H1 := hide h1
  have H2 := hide h2
  go_enter Tryd.func54, Tryd.ntmps54
  go_wp2_with fail
  refine (rtexts_any _ _ _).mono ?_
  rintro e w2 ⟨rfl, hw⟩
  have HT2 := unhide HT
  rw [← hw] at HT2
  clear hw HT
  obtain ⟨x0, x1, x2, x3⟩ := HT2.x.z
  obtain ⟨y0, y1, y2, y3⟩ := HT2.y.z
  rw [unhide HA1] at x3
  rw [unhide HA2] at y3
  have done : ∀ (Z : Int), Hid (std0 a b = Z) → SRel w a b (.int .i64 0) (.int .i64 Z) w2 := fun Z hZ => ⟨0, Nat.zero_le _, rfl, by rw [← unhide hZ]; rfl, HT2⟩
  have DONE := hide done
  have HBW := hide HT2.bw
  clear done HT2
  by_cases hs : cmpS a.str b.str = 0
  · have hsb : (cmpS a.str b.str == 0) = true := by simp [hs]
    have HS0 : Hid (std0 a b = cmpI (a.len : Int) (b.len : Int)) := by show _ = _; unfold std0; rw [if_pos hs]
    clear hs
    go_wp2_with fail
    refine (rorder_any _ _ _).mono ?_
    rintro e w' ⟨rfl, rfl⟩
    go_wp2_with fail
    clear x0 x1 x2 x3 y0 y1 y2 y3
    go_loopw [6, 5] (SRel w a b) (fun i _ _ => a.len - (intOf i).toNat)
    case atStart => exact unhide DONE _ HS0
    case round =>
      obtain ⟨k, hk, rfl, rfl, hT⟩ := hrel
      obtain ⟨x0, x1, x2, x3⟩ := hT.x.z
      obtain ⟨y0, y1, y2, y3⟩ := hT.y.z
      rw [unhide HA1] at x3
      rw [unhide HA2] at y3
      generalize hq : firstTo (fun i => (a.kid i).std (b.kid i)) k (std0 a b) = q
      have HQ := hide hq
      clear hq
      by_cases h0 : q = 0
      · subst h0
        by_cases hlt : k < a.len
        · have hlen : a.len = b.len := std0_len (firstTo_zero.1 (unhide HQ)).1
          have HLEN := hide hlen
          have hbw := hT.bw
          have har : a.At B wr := ha.below (hbw.mono hB)
          have hbr : b.At B wr := hb.below (hbw.mono hB)
          obtain ⟨g1, o1, e1, hg1, hc1⟩ := har.flat.at_ k hlt
          obtain ⟨g2, o2, e2, hg2, hc2⟩ := hbr.flat.at_ k (by omega)
          rw [unhide HA1] at e1
          rw [unhide HA2] at e2
          subst e1 e2
          clear hlen
          have hltb : (k : Int) < (b.len : Int) := by have := unhide HLEN; omega
          have hsz := hT.sz
          have xs := fun i : Later wr => (hT.later i.h).x.z.2.2.2
          have ys := fun i : Later wr => (hT.later i.h).y.z.2.2.2
          simp only [unhide HA1] at xs
          simp only [unhide HA2] at ys
          have hc1' := fun i : Later wr => hc1.below i.h (by omega)
          have hc2' := fun i : Later wr => hc2.below i.h (by omega)
          have c0 := fun i => (hc1' i).c0
          have c1 := fun i => (hc1' i).c1
          have c2 := fun i => (hc1' i).c2
          have c3 := fun i => (hc1' i).c3
          have d0 := fun i => (hc2' i).c0
          have d1 := fun i => (hc2' i).c1
          have d2 := fun i => (hc2' i).c2
          have d3 := fun i => (hc2' i).c3
          have CALL : Hid (∀ i : Later wr, Calls Tryd.prog 54 #[(a.kid k).val, (b.kid k).val] i.val fun e w' => e = .returned (.int .i64 ((a.kid k).std (b.kid k))) ∧ ∃ j : Later wr, w' = j.val) := fun i =>
            Calls.later (unhide IH k hlt (b.kid k) B _ ((har.kid k hlt).below (i.h.mono (by omega))) ((hbr.kid k (by omega)).below (i.h.mono (by omega))) (by have := i.h.size; omega))
          have HT := hide hT
          clear hc1' hc2' hc1 hc2 hT har hbr hsz
          go_wp2_with fail
          refine region_later (by kernel_rfl) (by kernel_rfl) ?_
          repeat (go_big_quiet_step ((go_at_call 54; exact unhide CALL _)))
          refine wpQuiet_nil ?_
          intro w3 hw3
          obtain ⟨i, hw4⟩ := hw3
          subst hw4
          clear c0 c1 c2 c3 d0 d1 d2 d3 xs ys x0 x1 x2 x3 y0 y1 y2 y3 CALL
          have HT2 := (unhide HT).later i.h
          clear HT
          generalize i.val = w3 at *
          go_wp2_with fail
          go_roundw
          case rel =>
            refine ⟨k + 1, by omega, by go_num, ?_, HT2⟩
            simp only [firstTo]
            rw [unhide HQ, if_pos rfl]
          case measure => simp [intOf]; omega
        · have hke : k = a.len := by omega
          have HKE := hide hke
          have hltb : decide ((k : Int) < (a.len : Int)) = false := decide_eq_false (by omega)
          clear hke
          have hbw := hT.bw
          clear hT
          go_wp2_with fail
          go_ret
          exact ⟨ret_int (by rw [unhide H, ← unhide HKE, unhide HQ]), hbw⟩
      · have h0b : (q == 0) = false := beq_eq_false_iff_ne.2 h0
        have H0 := hide h0
        have hbw := hT.bw
        clear hT h0
        have hfin : firstTo (fun i => (a.kid i).std (b.kid i)) a.len (std0 a b) = q := by
          have : ∀ m, k ≤ m → firstTo (fun i => (a.kid i).std (b.kid i)) m (std0 a b) = q := fun m hm => by
            induction m with
            | zero => obtain rfl : k = 0 := by omega
                      exact unhide HQ
            | succ m ih2 =>
              by_cases e : k = m + 1
              · subst e; exact unhide HQ
              · simp only [firstTo]; rw [ih2 (by omega), if_neg (unhide H0)]
          exact this _ hk
        have HF := hide hfin
        clear hfin
        by_cases hlt : k < a.len
        · go_wp2_with fail
          go_ret
          exact ⟨ret_int (by rw [unhide H, unhide HF]), hbw⟩
        · have hltb : decide ((k : Int) < (a.len : Int)) = false := decide_eq_false (by omega)
          go_wp2_with fail
          go_ret
          exact ⟨ret_int (by rw [unhide H, unhide HF]), hbw⟩
  · have hsb : (cmpS a.str b.str == 0) = false := beq_eq_false_iff_ne.2 hs
    have HS0 : Hid (std0 a b = cmpS a.str b.str) := by show _ = _; unfold std0; rw [if_neg hs]
    clear hs
    have HF : Hid (a.std b = cmpS a.str b.str) := by
      show _ = _
      rw [unhide H, unhide HS0, firstTo_first (fun e => by rw [e] at hsb; cases hsb)]
    have hbw := unhide HBW
    by_cases hl0 : 0 < a.len
    · go_wp2_with fail
      refine wp_loop_rounds 1 ?_
      rw [rounds_succ]
      go_wp2_with fail
      go_ret
      exact ⟨ret_int (by rw [unhide HF]), hbw⟩
    · have hltb : decide ((0 : Int) < (a.len : Int)) = false := decide_eq_false (by omega)
      go_wp2_with fail
      refine wp_loop_rounds 1 ?_
      rw [rounds_succ]
      go_wp2_with fail
      go_ret
      exact ⟨ret_int (by rw [unhide HF]), hbw⟩

theorem std_any : ∀ a : V, StdC a := by
  refine V.ind fun a ih b B w ha hb hB => ?_
  by_cases hk : a.kind = b.kind
  · by_cases h1 : a.kind = 1
    · exact std_num a b w hk h1
    · by_cases h2 : a.kind = 2
      · exact std_sym a b w hk h2
      · by_cases h3 : a.kind = 3
        · exact std_con a ih b B w ha hb hB hk h3
        · exact std_not a b w hk h1 h2 h3
  · exact std_kinds a b w hk

end Go.Proofs.YtbfkcfhkccicoaaDoor
