/- Walk of the document's test whether two values have just the same fields: Raw. -/
import Derived.Test.YtbfkcfhkccicoaaDoorTextI
namespace Go.Proofs.YtbfkcfhkccicoaaDoor
open Go.RowKit

def RawC (a : V) : Prop := ∀ (b : V) (B : Nat) (w : World), a.At B w → b.At B w → B ≤ w.heap.size →
  Calls Tryd.prog 14 #[a.val, b.val] w fun e w' => e = .returned (.bool (a.ord b == 0)) ∧ Below w.heap.size w w'

theorem ord_false {a b : V} (h : ¬ a.ord b = 0) : (a.ord b == 0) = false := beq_eq_false_iff_ne.2 h
theorem str_beq {s t : ByteArray} : (s.toList == t.toList) = decide (s = t) := by
  by_cases h : s = t
  · subst h; simp
  · rw [decide_eq_false h, beq_eq_false_iff_ne]
    intro e
    rw [Lib.toList_data, Lib.toList_data] at e
    exact h (str_eq e)

set_option maxHeartbeats 4000000 in
theorem raw_no (a b : V) (w : World) (h : ¬ (a.kind = b.kind ∧ a.num = b.num ∧ a.str = b.str ∧ a.len = b.len)) :
    Calls Tryd.prog 14 #[a.val, b.val] w fun e w' => e = .returned (.bool (a.ord b == 0)) ∧ Below w.heap.size w w' := by
  have H : Hid ((a.ord b == 0) = false) := ord_false (fun e => h (by have := (ord_zero a b).1 e; exact ⟨this.1, this.2.1, this.2.2.1, this.2.2.2.1⟩))
  have T := hide (two_boxes w a b).bw
  by_cases h0 : a.kind = b.kind
  · have e0 : (a.kind != b.kind) = false := by simp [h0]
    by_cases h1 : a.num = b.num
    · have e1 : (a.num != b.num) = false := by simp [h1]
      by_cases h2 : a.str = b.str
      · have e2 : (a.str.toList == b.str.toList) = true := by rw [str_beq]; exact decide_eq_true h2
        have h3 : ¬ a.len = b.len := fun e => h ⟨h0, h1, h2, e⟩
        have e3 : ((a.len : Int) != (b.len : Int)) = true := by rw [bne_iff_ne]; omega
        clear h h0 h1 h2 h3
        go_enter Tryd.func14, Tryd.ntmps14
        go_wp2_with fail
        go_ret
        exact ⟨ret_bool (unhide H).symm, unhide T⟩
      · have e2 : (a.str.toList == b.str.toList) = false := by rw [str_beq]; exact decide_eq_false h2
        clear h h0 h1 h2
        go_enter Tryd.func14, Tryd.ntmps14
        go_wp2_with fail
        go_ret
        exact ⟨ret_bool (unhide H).symm, unhide T⟩
    · have e1 : (a.num != b.num) = true := bne_iff_ne.2 h1
      clear h h0 h1
      go_enter Tryd.func14, Tryd.ntmps14
      go_wp2_with fail
      go_ret
      exact ⟨ret_bool (unhide H).symm, unhide T⟩
  · have e0 : (a.kind != b.kind) = true := bne_iff_ne.2 h0
    clear h h0
    go_enter Tryd.func14, Tryd.ntmps14
    go_wp2_with fail
    go_ret
    exact ⟨ret_bool (unhide H).symm, unhide T⟩

open Go.BigFrame in
set_option maxRecDepth 100000 in
set_option maxHeartbeats 8000000 in
theorem raw_yes (a : V) (ih : ∀ i, i < a.len → RawC (a.kid i)) (b : V) (B : Nat) (w : World) (ha : a.At B w) (hb : b.At B w) (hB : B ≤ w.heap.size) (h : a.kind = b.kind ∧ a.num = b.num ∧ a.str = b.str ∧ a.len = b.len) :
    Calls Tryd.prog 14 #[a.val, b.val] w fun e w' => e = .returned (.bool (a.ord b == 0)) ∧ Below w.heap.size w w' := by
  have hla := ha.flat.l
  have hlb := hb.flat.l
  have HE := hide h
  have e0 : (a.kind != b.kind) = false := by simp [h.1]
  have e1 : (a.num != b.num) = false := by simp [h.2.1]
  have e2 : (a.str.toList == b.str.toList) = true := by rw [str_beq]; exact decide_eq_true h.2.2.1
  have e3 : ((a.len : Int) != (b.len : Int)) = false := by simp [h.2.2.2]
  have IH := hide ih
  clear h ih
  unfold V.val
  have T := hide (two_boxes w a b)
  unfold V.obj at T
  generalize hA1 : a.addr = A1 at T ⊢
  generalize hA2 : b.addr = A2 at T ⊢
  have HA1 := hide hA1
  have HA2 := hide hA2
  clear hA1 hA2
  go_enter Tryd.func14, Tryd.ntmps14
  go_wp2_with fail
  go_loopw [5] (fun i wr => ∃ k : Nat, k ≤ a.len ∧ i = .int .i64 k ∧ Hid (∀ j, j < k → (a.kid j).ord (b.kid j) = 0) ∧ Hid (Two w wr a b)) (fun i _ => a.len - (intOf i).toNat)
  case atStart => exact ⟨0, Nat.zero_le _, rfl, fun j hj => absurd hj (Nat.not_lt_zero j), T⟩
  case round =>
    obtain ⟨k, hk, rfl, hz, hT0⟩ := hrel
    have hT := unhide hT0
    obtain ⟨x0, x1, x2, x3⟩ := hT.x.z
    obtain ⟨y0, y1, y2, y3⟩ := hT.y.z
    rw [unhide HA1] at x3
    rw [unhide HA2] at y3
    have hbw := hT.bw
    by_cases hlt : k < a.len
    · have har : a.At B wr := ha.below (hbw.mono hB)
      have hbr : b.At B wr := hb.below (hbw.mono hB)
      have hlt2 : k < b.len := by have := (unhide HE).2.2.2; omega
      obtain ⟨g1, o1, e1', hg1, hc1⟩ := har.flat.at_ k hlt
      obtain ⟨g2, o2, e2', hg2, hc2⟩ := hbr.flat.at_ k hlt2
      rw [unhide HA1] at e1'
      rw [unhide HA2] at e2'
      subst e1' e2'
      have hsz := hT.sz
      have xs := fun i : Later wr => (hT.later i.h).x.z.2.2.2
      have ys := fun i : Later wr => (hT.later i.h).y.z.2.2.2
      simp only [unhide HA1] at xs
      simp only [unhide HA2] at ys
      have hc1' := fun i : Later wr => hc1.below i.h (by omega)
      have hc2' := fun i : Later wr => hc2.below i.h (by omega)
      have c0 := fun i => (hc1' i).c0
      have c1 := fun i => (hc1' i).c1
      have c2 := fun i => (hc1' i).c2
      have c3 := fun i => (hc1' i).c3
      have d0 := fun i => (hc2' i).c0
      have d1 := fun i => (hc2' i).c1
      have d2 := fun i => (hc2' i).c2
      have d3 := fun i => (hc2' i).c3
      have CALL : Hid (∀ i : Later wr, Calls Tryd.prog 14 #[(a.kid k).val, (b.kid k).val] i.val fun e w' => e = .returned (.bool ((a.kid k).ord (b.kid k) == 0)) ∧ ∃ j : Later wr, w' = j.val) := fun i =>
        Calls.later (unhide IH k hlt (b.kid k) B _ ((har.kid k hlt).below (i.h.mono (by omega))) ((hbr.kid k hlt2).below (i.h.mono (by omega))) (by have := i.h.size; omega))
      have HT := hide hT
      clear hc1' hc2' hc1 hc2 hT har hbr hsz hT0
      go_wp2_with fail
      refine region_later (by kernel_rfl) (by kernel_rfl) ?_
      repeat (go_big_quiet_step ((go_at_call 14; exact unhide CALL _)))
      refine wpQuiet_nil ?_
      intro w3 hw3
      obtain ⟨i, hw4⟩ := hw3
      subst hw4
      clear c0 c1 c2 c3 d0 d1 d2 d3 xs ys x0 x1 x2 x3 y0 y1 y2 y3 CALL
      have HT2 := hide ((unhide HT).later i.h)
      have hbw2 := ((unhide HT).later i.h).bw
      clear HT
      generalize i.val = w3 at *
      cases hq : ((a.kid k).ord (b.kid k) == 0) with
      | true =>
        have HQ := hide hq
        go_wp2_with fail
        go_roundw
        case rel =>
          refine ⟨k + 1, by omega, by go_num, fun j hj => ?_, HT2⟩
          by_cases e : j = k
          · subst e; exact beq_iff_eq.1 (unhide HQ)
          · exact unhide hz j (by omega)
        case measure => simp [intOf]; omega
      | false =>
        have HQ := hide hq
        go_wp2_with fail
        go_ret
        refine ⟨ret_bool (ord_false (fun e => ?_)).symm, hbw2⟩
        have := ((ord_zero a b).1 e).2.2.2.2 k hlt
        have hq2 := unhide HQ
        rw [this] at hq2
        simp at hq2
    · have hke : k = a.len := by omega
      have hltb : decide ((k : Int) < (a.len : Int)) = false := decide_eq_false (by omega)
      have HKE := hide hke
      clear hke hT
      go_wp2_with fail
      go_ret
      refine ⟨ret_bool ?_, hbw⟩
      have : a.ord b = 0 := (ord_zero a b).2 ⟨(unhide HE).1, (unhide HE).2.1, (unhide HE).2.2.1, (unhide HE).2.2.2, fun j hj => unhide hz j (by have := unhide HKE; omega)⟩
      rw [this]; rfl

theorem raw_any : ∀ a : V, RawC a := by
  refine V.ind fun a ih b B w ha hb hB => ?_
  by_cases h : a.kind = b.kind ∧ a.num = b.num ∧ a.str = b.str ∧ a.len = b.len
  · exact raw_yes a ih b B w ha hb hB h
  · exact raw_no a b w h
end Go.Proofs.YtbfkcfhkccicoaaDoor
