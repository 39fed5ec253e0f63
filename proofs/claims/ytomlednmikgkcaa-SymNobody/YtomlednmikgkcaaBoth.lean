/- A table and the document's table beside it: each put turns its own alone. The texts of a slice that came in. What comes of many puts. -/
import Derived.Test.YtomlednmikgkcaaAlive
import Derived.SliceStrings
namespace Go.Proofs.Ytomlednmikgkcaa
open Go.RowKit Go.Maps

/-- A table somewhere. -/
def Only (W : World) (base tb hb mb : Nat) (xs : List ByteArray) : Prop := ∃ a cap, Tab W base tb hb mb a cap xs
/-- Two tables that lie apart. -/
def Both (W : World) (base tb hb mb rb : Nat) (xs ys : List ByteArray) : Prop :=
  ∃ a cap a2 cap2, Tab W base tb hb mb a cap xs ∧ Ref W base rb a2 cap2 ys ∧ ∀ k, a.map Addr.block = some k → a2.map Addr.block ≠ some k

section
variable {W W' : World} {base tb hb mb rb : Nat} {a a' a2 a2' : Option Addr} {cap cap' cap2 cap2' : Nat} {xs xs' ys ys' : List ByteArray}

theorem apart_blocks (t : Tab W base tb hb mb a cap xs) (r : Ref W base rb a2 cap2 ys) (h : ∀ k, a.map Addr.block = some k → a2.map Addr.block ≠ some k) : ∀ k, (k = tb ∨ mine hb mb a k) → ¬ mineR rb a2 k := by
  have hb2 : W.heap[rb]? = some (.cells #[.slice a2 ys.length cap2] 26 (0, 0)) := r.box
  obtain ⟨es, clock, hmb⟩ := t.mb_obj
  rintro k (e | e | e | e) (e2 | e2)
  · subst e; subst e2; have := t.tab; rw [hb2] at this; simp at this
  · subst e; obtain ⟨cur, hc⟩ := r.row.obj _ e2; have := t.tab; rw [hc] at this; simp at this
  · subst e; subst e2; have := t.held; rw [hb2] at this; simp at this
  · subst e; obtain ⟨cur, hc⟩ := r.row.obj _ e2; have := t.held; rw [hc] at this; simp at this
  · subst e; subst e2; rw [hb2] at hmb; cases hmb
  · subst e; obtain ⟨cur, hc⟩ := r.row.obj _ e2; rw [hc] at hmb; cases hmb
  · subst e2; obtain ⟨cur, hc⟩ := t.row.obj _ e; rw [hb2] at hc; simp at hc
  · exact h k e e2

theorem both_left (t : Tab W base tb hb mb a cap xs) (r : Ref W base rb a2 cap2 ys) (h : ∀ k, a.map Addr.block = some k → a2.map Addr.block ≠ some k) (l : Left W W' base tb hb mb a xs xs' a' cap') : Both W' base tb hb mb rb xs' ys := by
  refine ⟨a', cap', a2, cap2, l.tab, r.stays l.turn (fun k e e2 => apart_blocks t r h k (.inr e2) e), fun k e e2 => ?_⟩
  rcases l.at_ with rfl | ⟨g, eg, hg⟩
  · exact h k e e2
  · rw [eg] at e
    have : g = k := by simpa using e
    have := (r.row.lt k e2).2
    omega
theorem both_leftR (t : Tab W base tb hb mb a cap xs) (r : Ref W base rb a2 cap2 ys) (h : ∀ k, a.map Addr.block = some k → a2.map Addr.block ≠ some k) (l : LeftR W W' base rb a2 ys' a2' cap2') : Both W' base tb hb mb rb xs ys' := by
  refine ⟨a, cap, a2', cap2', t.stays l.turn (fun k e e2 => apart_blocks t r h k e e2), l.ref, fun k e e2 => ?_⟩
  rcases l.at_ with rfl | ⟨g, eg, hg⟩
  · exact h k e e2
  · rw [eg] at e2
    have : g = k := by simpa using e2
    have := (t.row.lt k e).2
    omega
theorem LeftR.below (l : LeftR W W' base rb a2 ys' a2' cap2') (h : Ref W base rb a2 cap2 ys) : Below base W W' :=
  l.turn.below h.from_.2 (fun k e => (h.mine_lt k e).1)

theorem Both.later (h : Both W base tb hb mb rb xs ys) (t : Below W.heap.size W W') : Both W' base tb hb mb rb xs ys := by
  obtain ⟨a, cap, a2, cap2, h1, h2, h3⟩ := h
  exact ⟨a, cap, a2, cap2, h1.later t, h2.stays (S := fun _ => False) (Turn.of_below t) (fun _ _ e => e), h3⟩
theorem Only.later (h : Only W base tb hb mb xs) (t : Below W.heap.size W W') : Only W' base tb hb mb xs := by
  obtain ⟨a, cap, h1⟩ := h
  exact ⟨a, cap, h1.later t⟩

theorem put_both (h : Both W base tb hb mb rb xs ys) (s : ByteArray) (hs : s.size ≤ 281474976710656) :
    Calls Try.prog 13 #[.pointer (some ⟨tb, 0, none⟩), .string s] W fun e w' => e = .returned (.tuple #[.int .i64 (ansN xs s : Int), .int .i64 (ansE xs s)]) ∧ Both w' base tb hb mb rb (put xs s) ys ∧ Below base W w' := by
  obtain ⟨a, cap, a2, cap2, h1, h2, h3⟩ := h
  exact (put_any h1 s hs).mono fun e w' ⟨he, a', cap', l⟩ => ⟨he, both_left h1 h2 h3 l, l.below h1⟩
theorem rput_both (h : Both W base tb hb mb rb xs ys) (s : ByteArray) :
    Calls Try.prog 14 #[.pointer (some ⟨rb, 0, none⟩), .string s] W fun e w' => e = .returned (.tuple #[.int .i64 (ansN ys s : Int), .int .i64 (ansE ys s)]) ∧ Both w' base tb hb mb rb xs (put ys s) ∧ Below base W w' := by
  obtain ⟨a, cap, a2, cap2, h1, h2, h3⟩ := h
  exact (rput_any h2 s).mono fun e w' ⟨he, a', cap', l⟩ => ⟨he, both_leftR h1 h2 h3 l, l.below h2⟩
theorem put_only (h : Only W base tb hb mb xs) (s : ByteArray) (hs : s.size ≤ 281474976710656) :
    Calls Try.prog 13 #[.pointer (some ⟨tb, 0, none⟩), .string s] W fun e w' => e = .returned (.tuple #[.int .i64 (ansN xs s : Int), .int .i64 (ansE xs s)]) ∧ Only w' base tb hb mb (put xs s) ∧ Below base W w' := by
  obtain ⟨a, cap, h1⟩ := h
  exact (put_any h1 s hs).mono fun e w' ⟨he, a', cap', l⟩ => ⟨he, ⟨a', cap', l.tab⟩, l.below h1⟩
theorem Both.only (h : Both W base tb hb mb rb xs ys) : Only W base tb hb mb xs := by
  obtain ⟨a, cap, a2, cap2, h1, h2, h3⟩ := h
  exact ⟨a, cap, h1⟩
theorem get_only (h : Only W base tb hb mb xs) (s : ByteArray) (hs : s.size ≤ 281474976710656) :
    Calls Try.prog 11 #[.pointer (some ⟨tb, 0, none⟩), .string s] W fun e w' => e = .returned (.tuple #[.int .i64 (num xs s : Int), .bool (there xs s)]) ∧ w' = W := by
  obtain ⟨a, cap, h1⟩ := h
  exact get_any h1 s hs
theorem text_only (h : Only W base tb hb mb xs) (n : Int) :
    Calls Try.prog 15 #[.pointer (some ⟨tb, 0, none⟩), .int .i64 n] W fun e w' => e = .returned (.tuple #[.string (textAt xs n), .bool (isNum xs n)]) ∧ w' = W := by
  obtain ⟨a, cap, h1⟩ := h
  exact text_any h1 n
theorem less_only (h : Only W base tb hb mb xs) (m n : Int) :
    Calls Try.prog 18 #[.pointer (some ⟨tb, 0, none⟩), .int .i64 m, .int .i64 n] W fun e w' => e = .returned (.bool (ahead xs m n)) ∧ w' = W := by
  obtain ⟨a, cap, h1⟩ := h
  exact less_any h1 m n
theorem len_only (h : Only W base tb hb mb xs) : Calls Try.prog 20 #[.pointer (some ⟨tb, 0, none⟩)] W fun e w' => e = .returned (.int .i64 (xs.length : Int)) ∧ w' = W := by
  obtain ⟨a, cap, h1⟩ := h
  exact len_any h1
theorem rget_both (h : Both W base tb hb mb rb xs ys) (s : ByteArray) :
    Calls Try.prog 12 #[.pointer (some ⟨rb, 0, none⟩), .string s] W fun e w' => e = .returned (.tuple #[.int .i64 (num ys s : Int), .bool (there ys s)]) ∧ w' = W := by
  obtain ⟨a, cap, a2, cap2, h1, h2, h3⟩ := h
  exact rget_any h2 s
theorem rtext_both (h : Both W base tb hb mb rb xs ys) (n : Int) :
    Calls Try.prog 16 #[.pointer (some ⟨rb, 0, none⟩), .int .i64 n] W fun e w' => e = .returned (.tuple #[.string (textAt ys n), .bool (isNum ys n)]) ∧ w' = W := by
  obtain ⟨a, cap, a2, cap2, h1, h2, h3⟩ := h
  exact rtext_any h2 n
theorem rless_both (h : Both W base tb hb mb rb xs ys) (m n : Int) :
    Calls Try.prog 19 #[.pointer (some ⟨rb, 0, none⟩), .int .i64 m, .int .i64 n] W fun e w' => e = .returned (.bool (ahead ys m n)) ∧ w' = W := by
  obtain ⟨a, cap, a2, cap2, h1, h2, h3⟩ := h
  exact rless_any h2 m n

/-- Beside a table a new one of the document's. -/
theorem below_new (W : World) : Below W.heap.size W (W.alloc (.cells #[.slice none 0 0] 26)) := (Below.refl _ W).alloc (Nat.le_refl _) _
theorem both_new (h : Only W base tb hb mb xs) : Both (W.alloc (.cells #[.slice none 0 0] 26)) base tb hb mb W.heap.size xs [] := by
  obtain ⟨a, cap, h1⟩ := h
  exact ⟨a, cap, none, 0, h1.later (below_new W), ⟨Boxed.new W 26 (.slice none 0 0), World.ownsRow_nil _ _ _ _, by simp, h1.from_.2.2, Nat.le_trans h1.from_.2.2 (below_new W).size⟩, by simp⟩
end

/-- A slice that came in: these texts, none longer than N bytes. -/
def Arg (W : World) (v : Value) (N : Nat) (l : List ByteArray) : Prop :=
  (v = .slice none 0 0 ∧ l = []) ∨ ∃ (ad : Addr) (cap : Nat), v = .slice (some ad) l.length cap ∧ l.length ≤ cap ∧ cap ≤ 9223372036854775807 ∧
    ∀ j x, l[j]? = some x → W.cell? (ad.add j) = some (.string x) ∧ ad.block < W.heap.size ∧ x.size ≤ N

/-- Its k-th text, somewhat later. -/
theorem arg_cell {W wr : World} {ad : Addr} {N : Nat} {l : List ByteArray} (h : ∀ j x, l[j]? = some x → W.cell? (ad.add j) = some (.string x) ∧ ad.block < W.heap.size ∧ x.size ≤ N) (hb : Below W.heap.size W wr) {k : Nat} (hk : k < l.length) :
    ∃ b off, ad = ⟨b, off, none⟩ ∧ wr.cell? ⟨b, off + k, none⟩ = some (.string l[k]) ∧ l[k].size ≤ N := by
  obtain ⟨h1, h2, h3⟩ := h k l[k] (by simp [hk])
  obtain ⟨b, off, spot⟩ := ad
  have hspot : spot = none := by
    have := World.cell?_spot (h 0 l[0] (by simp)).1
    simpa [Addr.add] using this
  subst hspot
  refine ⟨b, off, rfl, ?_, h3⟩
  have e1 : (⟨b, off, none⟩ : Addr).add k = ⟨b, off + k, none⟩ := by cases k <;> simp [Addr.add]
  rw [e1] at h1
  exact (hb.cell (p := ⟨b, off + k, none⟩) h2).trans h1

/-- What comes of many puts. -/
def puts (l : List ByteArray) : List ByteArray := l.foldl put []
theorem puts_take {l : List ByteArray} {k : Nat} (hk : k < l.length) : puts (l.take (k + 1)) = put (puts (l.take k)) l[k] := by
  unfold puts
  rw [List.take_add_one, List.foldl_append, List.getElem?_eq_getElem hk]
  rfl
theorem puts_length (l : List ByteArray) : (puts l).length ≤ l.length := by
  have h : ∀ (l acc : List ByteArray), (l.foldl put acc).length ≤ acc.length + l.length := by
    intro l
    induction l with
    | nil => intro acc; simp
    | cons x r ih =>
      intro acc
      have h1 := ih (put acc x)
      have h2 := put_length_le acc x
      simp only [List.foldl_cons, List.length_cons]
      omega
  simpa [puts] using h l []
theorem puts_mem {l : List ByteArray} {x : ByteArray} (h : x ∈ puts l) : x ∈ l := by
  have g : ∀ (l acc : List ByteArray), x ∈ l.foldl put acc → x ∈ acc ∨ x ∈ l := by
    intro l
    induction l with
    | nil => intro acc hx; exact .inl hx
    | cons y r ih =>
      intro acc hx
      rcases ih (put acc y) hx with h1 | h1
      · rcases put_mem h1 with h2 | h2
        · exact .inl h2
        · exact .inr (by simp [h2])
      · exact .inr (by simp [h1])
  rcases g l [] h with h1 | h1
  · cases h1
  · exact h1
end Go.Proofs.Ytomlednmikgkcaa
