/- Walks of how two values stand: term.order. -/
import Derived.Test.YtbfkcfhkccicoaaDoorOrdW
namespace Go.Proofs.YtbfkcfhkccicoaaDoor
open Go.RowKit

def OrdC (a : V) : Prop := ∀ (b : V) (B : Nat) (w : World), a.At B w → b.At B w → B ≤ w.heap.size →
  Calls Tryd.prog 29 #[a.val, b.val] w fun e w' => e = .returned (.int .i64 (a.ord b)) ∧ Below w.heap.size w w'

theorem firstTo_at {f : Nat → Int} {k m : Nat} (hz : firstTo f k 0 = 0) (h : f k ≠ 0) (hm : k + 1 ≤ m) : firstTo f m 0 = f k := by
  induction m with
  | zero => omega
  | succ m ih =>
    simp only [firstTo]
    by_cases e : m = k
    · subst e; rw [hz, if_pos rfl]
    · rw [ih (by omega), if_neg h]

set_option maxHeartbeats 4000000 in
theorem compareFunc_any (a : V) (ih : ∀ i, i < a.len → OrdC (a.kid i)) (b : V) (B : Nat) (w : World) (ha : a.At B w) (hb : b.At B w) (hB : B ≤ w.heap.size) (hlen : a.len = b.len) :
    Calls Tryd.prog 45 #[.slice a.addr a.len a.cap, .slice b.addr b.len b.cap, .func (.func 29) #[] #[]] w fun e w' =>
      e = .returned (.int .i64 (firstTo (fun i => (a.kid i).ord (b.kid i)) a.len 0)) ∧ Below w.heap.size w w' := by
  have hl := ha.flat.l
  have IH := hide ih
  clear ih
  generalize hA1 : a.addr = A1
  generalize hA2 : b.addr = A2
  have HA1 := hide hA1
  have HA2 := hide hA2
  clear hA1 hA2
  rw [← hlen]
  have HL := hide hlen
  clear hlen
  go_enter Tryd.func45, Tryd.ntmps45
  go_wp2_with fail
  go_loopw [13] (fun i wr => ∃ k : Nat, k ≤ a.len ∧ i = .int .i64 k ∧ Hid (firstTo (fun i => (a.kid i).ord (b.kid i)) k 0 = 0) ∧ Below w.heap.size w wr) (fun i _ => a.len - (intOf i).toNat)
  case atStart => exact ⟨0, Nat.zero_le _, rfl, rfl, Below.refl _ _⟩
  case round =>
    obtain ⟨k, hk, rfl, hz, hbw⟩ := hrel
    have har : a.At B wr := ha.below (hbw.mono hB)
    have hbr : b.At B wr := hb.below (hbw.mono hB)
    by_cases hlt : k < a.len
    · obtain ⟨b1, o1, e1, hb1, hc1⟩ := har.flat.at_ k hlt
      obtain ⟨b2, o2, e2, hb2, hc2⟩ := hbr.flat.at_ k (by have := unhide HL; omega)
      rw [unhide HA1] at e1
      rw [unhide HA2] at e2
      subst e1 e2
      have hbs := hbw.size
      have c0 := hc1.c0
      have c1 := hc1.c1
      have c2 := hc1.c2
      have c3 := hc1.c3
      have hd2 : ∀ o, CellsAt (wr.alloc o) b2 (o2 + k * 4) (b.kid k) := fun o => hc2.below (below_box wr o) (by omega)
      have d0 := fun o => (hd2 o).c0
      have d1 := fun o => (hd2 o).c1
      have d2 := fun o => (hd2 o).c2
      have d3 := fun o => (hd2 o).c3
      clear hd2 hc1 hc2
      go_wp2_with fail
      have bA : Below wr.heap.size wr ((wr.alloc (a.kid k).obj).alloc (b.kid k).obj) := (below_box _ _).trans ((below_box _ _).mono (by simp))
      refine (unhide IH k hlt (b.kid k) B _ ((har.kid k hlt).below (bA.mono (by omega))) ((hbr.kid k (by have := unhide HL; omega)).below (bA.mono (by omega))) (by simp; omega)).mono ?_
      rintro e w2 ⟨rfl, bB⟩
      have b3 : Below w.heap.size w w2 := hbw.trans ((bA.mono hbs).trans (bB.mono (by simp; omega)))
      clear c0 c1 c2 c3 d0 d1 d2 d3 bA bB
      by_cases h0 : (a.kid k).ord (b.kid k) = 0
      · have h1 : ((a.kid k).ord (b.kid k) != 0) = false := by simp [h0]
        have H0 := hide h0
        clear h0
        go_wp2_with fail
        go_roundw
        case rel =>
          refine ⟨k + 1, by omega, by go_num, ?_, b3⟩
          show _ = _
          simp only [firstTo]
          rw [hz.out, if_pos rfl, unhide H0]
        case measure => simp [intOf]; omega
      · have h1 : ((a.kid k).ord (b.kid k) != 0) = true := bne_iff_ne.2 h0
        have H0 := hide h0
        clear h0
        go_wp2_with fail
        go_ret
        exact ⟨ret_int (firstTo_at (f := fun i => (a.kid i).ord (b.kid i)) hz.out (unhide H0) (by omega)).symm, b3⟩
    · have : k = a.len := by omega
      subst this
      go_wp2_with fail
      go_ret
      exact ⟨ret_int hz.out.symm, hbw⟩
end Go.Proofs.YtbfkcfhkccicoaaDoor
