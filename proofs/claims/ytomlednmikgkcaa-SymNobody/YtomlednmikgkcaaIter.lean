/- Going over a table: what the function that yields does, whatever the loop's body, as long as the slice that it read once still reads as it did. -/
import Derived.RangeFuncNested
import Derived.RangeFuncBound
import Derived.RangeFuncCalls
import Derived.RangeFuncLeaves
import Derived.Shelf.Abstract
import Derived.Shelf.RegionOpen
import Derived.WalkKit
import Derived.OwnWalkIn
import Derived.TacticsInMore
import Derived.LoopNIn
import Derived.LoopIn
import Derived.Test.YtomlednmikgkcaaBoth
namespace Go.Proofs.Ytomlednmikgkcaa
open Go.RowKit Go.Shelf

attribute [local go_sem] Oper.semAt_some

theorem below_draws (B : Nat) (w : World) (n : Nat) : Below B w (w.drewN n) := ⟨rfl, rfl, rfl, Nat.le_refl _, fun _ _ => rfl⟩
def noText : ByteArray := ⟨#[]⟩
/-- What is yielded: a number and a text of at most N bytes. -/
abbrev Item (N : Nat) : Type := { x : Nat × ByteArray // x.2.size ≤ N }
def item {N : Nat} (xs : List ByteArray) (hs : ∀ j : Nat, (xs[j]?.getD noText).size ≤ N) (j : Nat) : Item N := ⟨(j, xs[j]?.getD noText), hs j⟩
def upto {α : Type} (f : Nat → α) (k : Nat) : List α := (List.range k).map f
theorem upto_succ {α : Type} (f : Nat → α) (k : Nat) : upto f (k + 1) = upto f k ++ [f k] := by simp [upto, List.range_succ]
theorem upto_length {α : Type} (f : Nat → α) (k : Nat) : (upto f k).length = k := by simp [upto]

/-- The slice still reads as it did. -/
def Still (a : Option Addr) (xs : List ByteArray) (A B : World) : Prop := Reads A a xs → Reads B a xs
theorem still_t {a : Option Addr} {xs : List ByteArray} {A B C : World} (h : Still a xs A B) (k : Still a xs B C) : Still a xs A C := fun r => k (h r)
theorem still_b {a : Option Addr} {xs : List ByteArray} (W : World) (l : Nat) (o o' : Obj) (h : W.heap[l]? = some o) (hc : o.isCells = false) : Still a xs W (W.putObj l o') := fun r j x hj => by
  obtain ⟨g, e, hg⟩ := r j x hj
  refine ⟨g, e, (grownBy_putObj' W l o').cell (a := ⟨g, j, none⟩) hg (fun e2 => ?_)⟩
  have : g = l := by simpa using e2
  subst this
  rw [World.cell?, h] at hg
  cases o <;> simp_all [Obj.isCells]

theorem all_in (n : Nat) (p : Option Addr) (w : World) :
    CallsIn Fence.wide n Try.prog 21 #[.pointer p] w fun e w' => e = .returned (.func (.func 24) #[] #[.pointer (some ⟨w.heap.size, 0, none⟩)]) ∧ w' = w.alloc (.cells #[.pointer p] 23) := by
  refine callsIn_of_wp Try.func21 rfl trivial ?_ rfl
  simp only [Try.ntmps21, List.size_toArray, List.length_cons, List.length_nil, Nat.reduceAdd, Nat.reduceSub, Array.replicate_succ, Array.replicate_zero, List.push_toArray, List.append_toArray, List.nil_append, List.cons_append]
  gi_wp2
  go_ret
  exact ⟨rfl, rfl⟩

set_option maxRecDepth 100000 in
set_option maxHeartbeats 2000000 in
theorem all1_in {N : Nat} (n : Nat) (hn : 1 ≤ n) (l Bn base tb hb mb : Nat) (a : Option Addr) (cap : Nat) (xs : List ByteArray) (hs : ∀ j : Nat, (xs[j]?.getD noText).size ≤ N) (J Jx : List (Item N) → World → Prop)
    (hY : ∀ pre x W1, J pre W1 → pre.length < xs.length → YieldAt Fence.wide (n - 1) Try.prog l #[.int .i64 (x.1.1 : Int), .string x.1.2] W1 fun e W' =>
      (e = .returned (.bool true) ∧ J (pre ++ [x]) W' ∧ Still a xs W1 W') ∨ (e = .returned (.bool false) ∧ Jx (pre ++ [x]) W'))
    (W : World) (hBn : W.cell? ⟨Bn, 0, none⟩ = some (.pointer (some ⟨tb, 0, none⟩))) (hT : Tab W base tb hb mb a cap xs) (h0 : J [] W) :
    CallsIn Fence.wide n Try.prog 24 #[.func (.yield l) #[] #[], .pointer (some ⟨Bn, 0, none⟩)] W fun e W' => (∃ v, e = .returned v) ∧
      ((∃ ys, ys = upto (item xs hs) xs.length ∧ J ys W') ∨ (∃ pre, (∃ k, k ≤ xs.length ∧ pre = upto (item xs hs) k) ∧ Jx pre W')) := by
  have c0 := hT.c0
  have c1 := hT.c1
  have hl := hT.len
  have hmade := made_any hT
  have hrow := hT.row.reads
  refine callsIn_of_wp Try.func24 rfl trivial ?_ rfl
  simp only [Try.ntmps24, List.size_toArray, List.length_cons, List.length_nil, Nat.reduceAdd, Nat.reduceSub, Array.replicate_succ, Array.replicate_zero, List.push_toArray, List.append_toArray, List.nil_append, List.cons_append]
  gi_wp2
  refine ⟨trivial, (callsIn_wide.2 hmade).mono ?_⟩
  rintro e w' ⟨rfl, rfl⟩
  gi_wp2
  gi_loopw [16] (fun i wr => ∃ k : Nat, k ≤ xs.length ∧ i = .int .i64 (k : Int) ∧ J (upto (item xs hs) k) wr ∧ Reads wr a xs) (fun i _ => xs.length - (intOf i).toNat)
  case atStart => exact ⟨0, Nat.zero_le _, rfl, h0, hrow⟩
  case round =>
    obtain ⟨k, hk, rfl, hJs, hr⟩ := hrel
    by_cases hlt : k < xs.length
    · obtain ⟨fn, tmps, assign, body, hy, hR⟩ := hY _ (item xs hs k) wr hJs (by rw [upto_length]; exact hlt)
      have ex : (xs[k]?.getD noText) = xs[k] := by simp [hlt]
      obtain ⟨g, rfl, hc⟩ := hr k xs[k] (by simp [hlt])
      simp only [item, ex] at hy
      have hi : (k : Int) < (xs.length : Int) := by omega
      have HR : Hid (Reads wr _ xs) := hr
      clear hr ex hrow hmade c0 c1 hT
      generalize xs[k] = t at hc hy
      gi_wp2
      refine hR.mono ?_
      rintro e W3 (⟨rfl, hJ3, hk3⟩ | ⟨rfl, hJx3⟩)
      · gi_wp2
        go_roundw
        case rel => exact ⟨k + 1, by omega, by simp, by rw [upto_succ]; exact hJ3, hk3 HR.out⟩
        case measure => simp [intOf]; omega
      · gi_wp2
        refine bodyPost_ret (results_none rfl _ _ _) rfl ?_
        exact ⟨⟨_, rfl⟩, .inr ⟨_, ⟨k + 1, by omega, (upto_succ _ _).symm⟩, hJx3⟩⟩
    · obtain rfl : k = xs.length := by omega
      gi_wp2
      go_end0
      exact ⟨⟨_, rfl⟩, .inl ⟨_, rfl, hJs⟩⟩

/-- The texts with their numbers, all or the first of them. -/
theorem all_stops {N : Nat} (n : Nat) (hn : 1 ≤ n) (Bn base tb hb mb : Nat) (a : Option Addr) (cap : Nat) (xs : List ByteArray) (hs : ∀ j : Nat, (xs[j]?.getD noText).size ≤ N) (w : World)
    (hBn : Boxed w Bn 23 (.pointer (some ⟨tb, 0, none⟩))) (hT : Tab w base tb hb mb a cap xs) :
    SeqStopsK Fence.wide n Try.prog 24 #[.pointer (some ⟨Bn, 0, none⟩)] (fun x : Item N => #[Value.int .i64 (x.1.1 : Int), Value.string x.1.2]) (Still a xs) (fun ys => ys = upto (item xs hs) xs.length)
      (fun pre => ∃ k, k ≤ xs.length ∧ pre = upto (item xs hs) k) xs.length w := fun l J Jx W hW _ _ hY h0 =>
  all1_in n hn l Bn base tb hb mb a cap xs hs J Jx hY W ((hW.cell (p := ⟨Bn, 0, none⟩) hBn.lt).trans hBn.cell) (hT.later hW) h0

theorem sizes_of {N : Nat} {xs : List ByteArray} (h : ∀ x ∈ xs, x.size ≤ N) : ∀ j : Nat, (xs[j]?.getD noText).size ≤ N := fun j => by
  cases e : xs[j]? with
  | none => exact Nat.zero_le _
  | some x => exact h x (List.mem_of_getElem? e)
end Go.Proofs.Ytomlednmikgkcaa
