/- Walks of the document's own table, a list that is gone through from its head. -/
import Derived.Test.YtomlednmikgkcaaWalks
namespace Go.Proofs.Ytomlednmikgkcaa
open Go.RowKit Go.Maps

/-- The document's table at block rb: its row of texts. -/
structure Ref (W : World) (base rb : Nat) (a : Option Addr) (cap : Nat) (xs : List ByteArray) : Prop where
  box : Boxed W rb 26 (.slice a xs.length cap)
  row : Row W base a cap xs
  len : xs.length ≤ 16384
  from_ : base ≤ rb ∧ base ≤ W.heap.size

/-- The blocks that a put may turn. -/
def mineR (rb : Nat) (a : Option Addr) (k : Nat) : Prop := k = rb ∨ a.map Addr.block = some k

theorem same_false {t s : ByteArray} (h : t ≠ s) : (t.toList == s.toList) = false := by
  rw [ByteArray.toList_eq, ByteArray.toList_eq]
  simp only [beq_eq_false_iff_ne, ne_eq]
  exact fun e => h (ByteArray.ext (Array.toList_inj.1 e))
theorem same_true (s : ByteArray) : (s.toList == s.toList) = true := by simp

section
variable {W : World} {base rb : Nat} {a : Option Addr} {cap : Nat} {xs : List ByteArray}

theorem Ref.row_ne (h : Ref W base rb a cap xs) : ∀ k, a.map Addr.block = some k → k ≠ rb := fun k e e2 => by
  obtain ⟨cur, hc⟩ := h.row.obj k e
  have hb : W.heap[rb]? = some (.cells #[.slice a xs.length cap] 26 (0, 0)) := h.box
  rw [← e2, hc] at hb
  simp at hb
theorem Ref.stays {W' : World} {S : Nat → Prop} (h : Ref W base rb a cap xs) (t : Turn S W W') (hS : ∀ k, mineR rb a k → ¬ S k) : Ref W' base rb a cap xs :=
  ⟨(t.block rb h.box.lt (hS rb (.inl rfl))).trans h.box, h.row.stays t (fun k e => hS k (.inr e)), h.len, h.from_.1, Nat.le_trans h.from_.2 t.size⟩
theorem Ref.mine_lt (h : Ref W base rb a cap xs) : ∀ k, mineR rb a k → base ≤ k ∧ k < W.heap.size := by
  rintro k (e | e)
  · subst e; exact ⟨h.from_.1, h.box.lt⟩
  · exact h.row.lt k e

theorem rget_any (h : Ref W base rb a cap xs) (s : ByteArray) :
    Calls Try.prog 12 #[.pointer (some ⟨rb, 0, none⟩), .string s] W fun e w' => e = .returned (.tuple #[.int .i64 (num xs s : Int), .bool (there xs s)]) ∧ w' = W := by
  have c0 := h.box.cell
  have hr := h.row.reads
  have hl := h.len
  go_enter Try.func12, Try.ntmps12
  go_wp2
  go_loop [6] (fun i => ∃ k : Nat, k ≤ xs.length ∧ i = .int .i64 k ∧ Hid (∀ j, j < k → xs[j]? ≠ some s)) (fun i => xs.length - (intOf i).toNat)
  case atStart => exact ⟨0, Nat.zero_le _, rfl, fun j hj => by omega⟩
  case round =>
    obtain ⟨k, hk, rfl, hne⟩ := hrel
    by_cases hlt : k < xs.length
    · obtain ⟨g, rfl, hc⟩ := hr k xs[k] (by simp [hlt])
      have hi : (k : Int) < (xs.length : Int) := by omega
      have hx : Hid (xs[k]? = some xs[k]) := by simp [Hid, hlt]
      generalize xs[k] = t at hc hx
      by_cases e : t = s
      · subst e
        go_wp2
        go_ret2
        obtain ⟨e1, e2⟩ := there_at hne.out hx.out
        rw [e1, e2]
        exact ⟨rfl, rfl⟩
      · have hf := same_false e
        go_wp2
        go_round
        case rel => exact ⟨k + 1, by omega, by go_num, fun j hj => by
          by_cases e2 : j < k
          · exact hne.out j e2
          · obtain rfl : j = k := by omega
            rw [hx.out]
            exact fun e3 => e (by simpa using e3)⟩
        case measure => simp [intOf]; omega
    · obtain rfl : k = xs.length := by omega
      go_wp2
      go_ret2
      obtain ⟨e1, e2⟩ := there_out hne.out
      rw [e1, e2]
      exact ⟨rfl, rfl⟩

theorem rtext_any (h : Ref W base rb a cap xs) (n : Int) :
    Calls Try.prog 16 #[.pointer (some ⟨rb, 0, none⟩), .int .i64 n] W fun e w' => e = .returned (.tuple #[.string (textAt xs n), .bool (isNum xs n)]) ∧ w' = W := by
  have c0 := h.box.cell
  by_cases h0 : n < 0
  · have e1 : isNum xs n = false := by simp [isNum]; omega
    rw [textAt_out e1, e1]
    go_enter Try.func16, Try.ntmps16
    go_wp2
    go_ret2
    exact ⟨rfl, rfl⟩
  · by_cases h1 : (xs.length : Int) ≤ n
    · have e1 : isNum xs n = false := by simp [isNum]; omega
      rw [textAt_out e1, e1]
      go_enter Try.func16, Try.ntmps16
      go_wp2
      go_ret2
      exact ⟨rfl, rfl⟩
    · obtain ⟨k, rfl⟩ : ∃ k : Nat, n = (k : Int) := ⟨n.toNat, by omega⟩
      have hk : k < xs.length := by omega
      have e1 : isNum xs (k : Int) = true := by simp [isNum]; omega
      have e2 : textAt xs (k : Int) = xs[k] := by simp [textAt, hk]
      obtain ⟨g, rfl, hc⟩ := h.row.reads k xs[k] (by simp [hk])
      rw [e1, e2]
      have hk2 : (k : Int) < (xs.length : Int) := by omega
      clear e1 e2
      generalize xs[k] = t at hc ⊢
      go_enter Try.func16, Try.ntmps16
      go_wp2
      go_ret2
      exact ⟨rfl, rfl⟩

theorem rless_any (h : Ref W base rb a cap xs) (m n : Int) :
    Calls Try.prog 19 #[.pointer (some ⟨rb, 0, none⟩), .int .i64 m, .int .i64 n] W fun e w' => e = .returned (.bool (ahead xs m n)) ∧ w' = W := by
  unfold ahead
  have t1 := rtext_any h m
  have t2 := rtext_any h n
  generalize textAt xs m = x at t1 ⊢
  generalize textAt xs n = y at t2 ⊢
  generalize isNum xs m = p at t1 ⊢
  generalize isNum xs n = q at t2 ⊢
  cases p <;> cases q
  all_goals
    go_enter Try.func19, Try.ntmps19
    go_wp2_with fail
    refine t1.mono ?_
    rintro e w' ⟨rfl, rfl⟩
    go_wp2_with fail
    refine t2.mono ?_
    rintro e w' ⟨rfl, rfl⟩
    go_wp2
    go_ret
    exact ⟨rfl, rfl⟩

/-- What a put leaves. -/
structure LeftR (W W' : World) (base rb : Nat) (a : Option Addr) (xs' : List ByteArray) (a' : Option Addr) (cap' : Nat) : Prop where
  ref : Ref W' base rb a' cap' xs'
  turn : Turn (mineR rb a) W W'
  at_ : a' = a ∨ ∃ g, a'.map Addr.block = some g ∧ W.heap.size ≤ g

theorem leftR_of {w2 : World} {s : ByteArray} {a' : Option Addr} {cap' : Nat} (h : Ref W base rb a cap xs)
    (hrow : Row w2 base a' cap' (xs ++ [s])) (hgrow : (W.alloc (.cells #[.string s] 9)).grownBy w2 (a.map Addr.block)) (hat : (a' = a ∧ a ≠ none) ∨ (a'.map Addr.block = some (W.alloc (.cells #[.string s] 9)).heap.size ∧ (W.alloc (.cells #[.string s] 9)).grownBy w2 none)) (hl : xs.length < 16384) :
    LeftR W (w2.setCell ⟨rb, 0, none⟩ (.slice a' (xs.length + 1) cap')) base rb a (xs ++ [s]) a' cap' := by
  have t0 : Turn (mineR rb a) W (W.alloc (.cells #[.string s] 9)) := Turn.alloc _ _
  have t1 : Turn (mineR rb a) (W.alloc (.cells #[.string s] 9)) w2 := Turn.of_grownBy hgrow (fun k e => .inr e)
  have t2 : Turn (mineR rb a) w2 (w2.setCell ⟨rb, 0, none⟩ (.slice a' (xs.length + 1) cap')) := Turn.setCell _ _ _ (.inl rfl)
  have t4 := (t0.trans t1 (fun _ _ e => e)).trans t2 (fun _ _ e => e)
  have hrb := h.box.lt
  have hbox : Boxed w2 rb 26 (.slice a xs.length cap) := (h.box.alloc _).kept hgrow (fun e => h.row_ne rb e.symm rfl)
  have hne : ∀ k, a'.map Addr.block = some k → k ≠ rb := fun k e => by
    rcases hat with ⟨rfl, _⟩ | ⟨e2, _⟩
    · exact h.row_ne k e
    · rw [e2] at e
      have : W.heap.size + 1 = k := by simpa using e
      omega
  refine ⟨⟨by simpa using hbox.set (.slice a' (xs.length + 1) cap'), hrow.stays (S := fun k => k = rb) (Turn.setCell _ _ _ rfl) hne, by simp; omega, h.from_.1, Nat.le_trans h.from_.2 t4.size⟩, t4, ?_⟩
  rcases hat with ⟨e, _⟩ | ⟨e, _⟩
  · exact .inl e
  · exact .inr ⟨_, e, by simp⟩

set_option maxRecDepth 100000 in
set_option maxHeartbeats 1000000 in
theorem rput_any (hRef : Ref W base rb a cap xs) (s : ByteArray) :
    Calls Try.prog 14 #[.pointer (some ⟨rb, 0, none⟩), .string s] W fun e w' => e = .returned (.tuple #[.int .i64 (ansN xs s : Int), .int .i64 (ansE xs s)]) ∧ ∃ a' cap', LeftR W w' base rb a (put xs s) a' cap' := by
  have c0 := hRef.box.cell
  have hl := hRef.len
  have hget := rget_any hRef s
  unfold ansN ansE put
  cases ht : there xs s with
  | true =>
    rw [ht] at hget
    go_enter Try.func14, Try.ntmps14
    go_wp2_with (go_at_call 12; refine hget.mono ?_; rintro e w' ⟨rfl, rfl⟩)
    go_ret2
    exact ⟨rfl, a, cap, hRef, Turn.refl _ _, .inl rfl⟩
  | false =>
    rw [ht] at hget
    by_cases hf : 16384 ≤ xs.length
    · obtain he : xs.length = 16384 := by omega
      have hi : (16384 : Int) ≤ (xs.length : Int) := by omega
      simp only [hf, if_true, Bool.false_eq_true, if_false]
      go_enter Try.func14, Try.ntmps14
      go_wp2_with (go_at_call 12; refine hget.mono ?_; rintro e w' ⟨rfl, rfl⟩)
      go_ret2
      exact ⟨rfl, a, cap, hRef, Turn.refl _ _, .inl rfl⟩
    · have hl2 : xs.length < 16384 := by omega
      have hi : (xs.length : Int) < 16384 := by omega
      simp only [hf, Bool.false_eq_true, if_false]
      have hrow1 : Row (W.alloc (.cells #[.string s] 9)) base a cap xs := hRef.row.stays (S := fun _ => False) (Turn.alloc _ _) (fun _ _ e => e)
      have hbs : base ≤ (W.alloc (.cells #[.string s] 9)).heap.size := by have := hRef.from_.2; simp; omega
      have hbox1 := hRef.box.alloc (.cells #[.string s] 9)
      go_enter Try.func14, Try.ntmps14
      go_wp2_with (first
        | (go_at_call 12; refine hget.mono ?_; rintro e w' ⟨rfl, rfl⟩)
        | (at_builtin; refine wpList_append_text _ rfl _ _ rfl base a cap xs s ⟨_, 0, none⟩ rfl hrow1 rfl (by simp [Addr.add]) (by omega) hbs ?_; intro a' cap' w2 hrow hgrow hat
           have hbox2 := hbox1.kept hgrow (fun e => hRef.row_ne rb e.symm rfl)
           have hc2 := hbox2.cell
           have hf2 := hbox2.frozen
           have hc3 := (hbox2.set (.slice a' (xs.length + 1) cap')).cell
           clear hbox2)
        | go_in)
      go_ret2
      exact ⟨by simp, a', cap', leftR_of hRef hrow hgrow hat hl2⟩
end
end Go.Proofs.Ytomlednmikgkcaa
