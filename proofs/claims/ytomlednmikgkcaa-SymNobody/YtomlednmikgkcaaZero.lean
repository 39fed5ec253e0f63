/- The walk of SymNobody. -/
import Derived.Test.YtomlednmikgkcaaStands
namespace Go.Proofs.Ytomlednmikgkcaa
open Go.RowKit Go.Shelf

/-- A table that nobody made: none, or one that holds nothing. -/
def Zero (W : World) (p : Option Addr) : Prop := p = none ∨ ∃ tz, p = some ⟨tz, 0, none⟩ ∧ W.heap[tz]? = some (.cells #[.pointer none] 50 (0, 0))

section
variable {W : World} {p : Option Addr}
theorem madeZ (h : Zero W p) : Calls Try.prog 22 #[.pointer p] W fun e w' => e = .returned (.bool false) ∧ w' = W := by
  rcases h with rfl | ⟨tz, rfl, hz⟩
  · go_enter Try.func22, Try.ntmps22
    go_wp2
    go_ret
    exact ⟨rfl, rfl⟩
  · have c0 : W.cell? ⟨tz, 0, none⟩ = some (.pointer none) := by simp [World.cell?, hz]
    clear hz
    go_enter Try.func22, Try.ntmps22
    go_wp2
    go_ret
    exact ⟨rfl, rfl⟩
theorem lenZ (h : Zero W p) : Calls Try.prog 20 #[.pointer p] W fun e w' => e = .returned (.int .i64 0) ∧ w' = W := by
  go_enter Try.func20, Try.ntmps20
  go_wp2_with (go_at_call 22; refine (madeZ h).mono ?_; rintro e w' ⟨rfl, rfl⟩)
  go_ret
  exact ⟨rfl, rfl⟩
theorem putZ (h : Zero W p) (s : ByteArray) : Calls Try.prog 13 #[.pointer p, .string s] W fun e w' => e = .returned (.tuple #[.int .i64 0, .int .i64 5]) ∧ w' = W := by
  go_enter Try.func13, Try.ntmps13
  go_wp2_with (go_at_call 22; refine (madeZ h).mono ?_; rintro e w' ⟨rfl, rfl⟩)
  go_ret2
  exact ⟨rfl, rfl⟩
theorem getZ (h : Zero W p) (s : ByteArray) : Calls Try.prog 11 #[.pointer p, .string s] W fun e w' => e = .returned (.tuple #[.int .i64 0, .bool false]) ∧ w' = W := by
  go_enter Try.func11, Try.ntmps11
  go_wp2_with (go_at_call 22; refine (madeZ h).mono ?_; rintro e w' ⟨rfl, rfl⟩)
  go_ret2
  exact ⟨rfl, rfl⟩
theorem textZ (h : Zero W p) (n : Int) : Calls Try.prog 15 #[.pointer p, .int .i64 n] W fun e w' => e = .returned (.tuple #[.string ⟨#[]⟩, .bool false]) ∧ w' = W := by
  by_cases h0 : n < 0
  · go_enter Try.func15, Try.ntmps15
    go_wp2_with (go_at_call 20; refine (lenZ h).mono ?_; rintro e w' ⟨rfl, rfl⟩)
    go_ret2
    exact ⟨rfl, rfl⟩
  · have h1 : 0 ≤ n := by omega
    go_enter Try.func15, Try.ntmps15
    go_wp2_with (go_at_call 20; refine (lenZ h).mono ?_; rintro e w' ⟨rfl, rfl⟩)
    go_ret2
    exact ⟨rfl, rfl⟩
theorem lessZ (h : Zero W p) (m n : Int) : Calls Try.prog 18 #[.pointer p, .int .i64 m, .int .i64 n] W fun e w' => e = .returned (.bool false) ∧ w' = W := by
  go_enter Try.func18, Try.ntmps18
  go_wp2_with fail
  refine (textZ h m).mono ?_
  rintro e w' ⟨rfl, rfl⟩
  go_wp2_with fail
  refine (textZ h n).mono ?_
  rintro e w' ⟨rfl, rfl⟩
  go_wp2
  go_ret
  exact ⟨rfl, rfl⟩
end

attribute [local go_sem] Oper.semAt_some

set_option maxRecDepth 100000 in
/-- Going over it shows nothing. -/
theorem zero1_in (n : Nat) (hn : 1 ≤ n) (l Bn : Nat) (p : Option Addr) (J : List Unit → World → Prop) (W : World) (hBn : W.cell? ⟨Bn, 0, none⟩ = some (.pointer p)) (hZ : Zero W p) (h0 : J [] W) :
    CallsIn Fence.wide n Try.prog 24 #[.func (.yield l) #[] #[], .pointer (some ⟨Bn, 0, none⟩)] W fun e W' => (∃ v, e = .returned v) ∧ J [] W' := by
  have hmade := madeZ hZ
  refine callsIn_of_wp Try.func24 rfl trivial ?_ rfl
  simp only [Try.ntmps24, List.size_toArray, List.length_cons, List.length_nil, Nat.reduceAdd, Nat.reduceSub, Array.replicate_succ, Array.replicate_zero, List.push_toArray, List.append_toArray, List.nil_append, List.cons_append]
  gi_wp2
  refine ⟨trivial, (callsIn_wide.2 hmade).mono ?_⟩
  rintro e w' ⟨rfl, rfl⟩
  gi_wp2
  refine bodyPost_ret (results_none rfl _ _ _) rfl ?_
  exact ⟨⟨_, rfl⟩, h0⟩

theorem zero_stops (n : Nat) (hn : 1 ≤ n) (Bn : Nat) (p : Option Addr) (w : World) (hBn : Boxed w Bn 23 (.pointer p)) (hZ : ∀ W, Below w.heap.size w W → Zero W p) :
    SeqStopsK Fence.wide n Try.prog 24 #[.pointer (some ⟨Bn, 0, none⟩)] (fun _ : Unit => #[Value.int .i64 0, Value.string ⟨#[]⟩]) (fun _ _ => True) (fun ys => ys = []) (fun _ => False) 0 w := fun l J _ W hW _ _ _ h0 =>
  (zero1_in n hn l Bn p J W ((hW.cell (p := ⟨Bn, 0, none⟩) hBn.lt).trans hBn.cell) (hZ W hW) h0).mono fun _ _ ⟨he, hj⟩ => ⟨he, .inl ⟨[], rfl, hj⟩⟩
end Go.Proofs.Ytomlednmikgkcaa
