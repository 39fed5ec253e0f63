/- Walk of putting a node: putNode. -/
import Derived.Test.YtpiehfjgokfdeaaDoorPutM
namespace Go.Proofs.YtpiehfjgokfdeaaDoor
open Go.RowKit Go.Maps Go.WideMaps

theorem ret_ii {x : Int × Int} {a b : Int} (h : x = (a, b)) : Ending.returned (.tuple #[.int .i64 a, .int .i64 b]) = .returned (.tuple #[.int .i64 x.1, .int .i64 x.2]) := by rw [h]
/-- A node's block. -/
def NB (w : World) (g : Nat) (n : Nd) : Prop := w.heap[g]? = some (.cells (n.list.map (Value.int .i64)).toArray 98 (0, 0))
theorem NB.cell {w : World} {g : Nat} {n : Nd} (h : NB w g n) (j : Nat) (hj : j < 18) : w.cell? ⟨g, j, none⟩ = some (.int .i64 (n j)) := by
  unfold NB at h
  simp only [World.cell?]
  rw [h]
  simp [Nd.list, hj]
theorem NB.frozen {w : World} {g : Nat} {n : Nd} (h : NB w g n) (j : Nat) : w.frozen? ⟨g, j, none⟩ = false := by
  unfold NB at h
  simp [World.frozen?, h]
theorem nb_alloc (w : World) (n : Nd) : NB (w.alloc (.cells (n.list.map (Value.int .i64)).toArray 98)) w.heap.size n := World.alloc_heap_new w _
theorem NB.later {w w' : World} {g B : Nat} {n : Nd} (h : NB w g n) (hb : Below B w w') (hg : g < B) : NB w' g n := (hb.block g hg).trans h
theorem NB.turn {Q : Nat → Prop} {w w' : World} {g : Nat} {n : Nd} (h : NB w g n) (t : Turn Q w w') (hg : ¬ Q g) : NB w' g n := (t.block g (Sym.lt_of_heap h) hg).trans h
theorem NB.set {w : World} {g i : Nat} {n : Nd} (h : NB w g n) (hi : i < 18) (x : Int) : NB (w.setCell ⟨g, i, none⟩ (.int .i64 x)) g (fun j => if j = i then x else n j) := by
  unfold NB at *
  simp only [World.setCell, Array.getElem?_modify, h]
  simp only [if_true, Option.map_some, Option.isSome_none, Bool.false_eq_true, if_false]
  congr 2
  apply Array.ext_getElem?
  intro j
  rw [Array.getElem?_setIfInBounds]
  by_cases e : i = j
  · subst e
    simp [Nd.list, hi]
  · rw [if_neg e]
    by_cases hj : j < 18
    · simp [Nd.list, hj, Ne.symm e]
    · simp [Nd.list, hj]

theorem nd_obj (n : Nd) : (Obj.cells (n.list.map (Value.int .i64)).toArray 98) = .cells #[.int .i64 (n 0), .int .i64 (n 1), .int .i64 (n 2), .int .i64 (n 3), .int .i64 (n 4), .int .i64 (n 5), .int .i64 (n 6), .int .i64 (n 7), .int .i64 (n 8), .int .i64 (n 9),
    .int .i64 (n 10), .int .i64 (n 11), .int .i64 (n 12), .int .i64 (n 13), .int .i64 (n 14), .int .i64 (n 15), .int .i64 (n 16), .int .i64 (n 17)] 98 := rfl

theorem putNodeV_there {S : SS} {word : ByteArray} {n : Nd} (h : (findV S word n).2 = true) : putNodeV S word n = (((findV S word n).1, 0), S) := if_pos h
theorem putNodeV_full {S : SS} {word : ByteArray} {n : Nd} (h : (findV S word n).2 = false) (hl : 16384 ≤ S.ns.length) : putNodeV S word n = ((0, 18), S) := by
  unfold putNodeV; rw [if_neg (by rw [h]; simp), if_pos hl]
theorem putNodeV_new {S : SS} {word : ByteArray} {n : Nd} (h : (findV S word n).2 = false) (hl : S.ns.length < 16384) : putNodeV S word n = (((S.ns.length : Int), 0), ⟨S.xs, Sym.put S.ws word, S.ns ++ [(n.at0 (Sym.ansN S.ws word)).list]⟩) := by
  unfold putNodeV; rw [if_neg (by rw [h]; simp), if_neg (by omega)]

/-- What holds of every store: no more words than nodes, and each node's word has a number. -/
structure SS.Ok (S : SS) : Prop where
  words : S.ws.length ≤ S.ns.length
  heads : ∀ l ∈ S.ns, ∃ w : Nat, w < S.ws.length ∧ l.head? = some (w : Int)
theorem at0_head (n : Nd) (x : Int) : (n.at0 x).list.head? = some x := rfl
theorem ansN_lt {xs : List ByteArray} {s : ByteArray} (h : xs.length < 16384) : Sym.ansN xs s < (Sym.put xs s).length := by
  unfold Sym.ansN Sym.put
  cases ht : Sym.there xs s with
  | true => simp only [if_true]; exact (Sym.num_at ht).2
  | false => simp only [Bool.false_eq_true, if_false, if_neg (show ¬ 16384 ≤ xs.length by omega)]; simp
theorem put_len_ge (xs : List ByteArray) (s : ByteArray) : xs.length ≤ (Sym.put xs s).length := (Sym.put_prefix xs s).length_le
/-- The new node is none of the old ones. -/
theorem new_node {S : SS} {word : ByteArray} {n : Nd} (ok : S.Ok) (h : (findV S word n).2 = false) (hl : S.ns.length < 16384) : (n.at0 (Sym.ansN S.ws word)).list ∉ S.ns := fun hm => by
  cases ht : Sym.there S.ws word with
  | true =>
    unfold findV at h
    rw [if_pos ht] at h
    simp only [nThere, decide_eq_false_iff_not] at h
    unfold Sym.ansN at hm
    rw [if_pos ht] at hm
    exact h hm
  | false =>
    obtain ⟨w, hw, he⟩ := ok.heads _ hm
    rw [at0_head] at he
    injection he with he
    unfold Sym.ansN at he
    rw [if_neg (by rw [ht]; simp), if_neg (by have := ok.words; omega)] at he
    omega
theorem putNodeV_ok {S : SS} {word : ByteArray} {n : Nd} (ok : S.Ok) : (putNodeV S word n).2.Ok := by
  cases h : (findV S word n).2 with
  | true => rw [putNodeV_there h]; exact ok
  | false =>
    by_cases hl : 16384 ≤ S.ns.length
    · rw [putNodeV_full h hl]; exact ok
    · rw [putNodeV_new h (by omega)]
      refine ⟨?_, ?_⟩
      · have := Sym.put_length_le S.ws word
        have := ok.words
        simp only [List.length_append, List.length_cons, List.length_nil]; omega
      · intro l hm
        rcases List.mem_append.1 hm with hm | hm
        · obtain ⟨w, hw, he⟩ := ok.heads l hm
          exact ⟨w, Nat.lt_of_lt_of_le hw (put_len_ge _ _), he⟩
        · simp only [List.mem_cons, List.not_mem_nil, or_false] at hm
          subst hm
          exact ⟨_, ansN_lt (by have := ok.words; omega), at0_head _ _⟩
theorem argsTo_ok {f : Nat → SS → (Int × Int) × SS} : ∀ {k : Nat} {S : SS}, (∀ i, i < k → ∀ S, S.Ok → (f i S).2.Ok) → S.Ok → (argsTo f k S).S.Ok
  | 0, _, _, ok => ok
  | k + 1, S, h, ok => by
    have ih := argsTo_ok (f := f) (k := k) (fun i hi => h i (by omega)) ok
    rw [argsTo_succ]
    split
    · exact h k (by omega) _ ih
    · exact ih
theorem putV_ok : ∀ v : V, ∀ S : SS, S.Ok → (v.kind = 1 ∨ v.kind = 2 ∨ v.kind = 3) → (∀ i, i < v.len → ∀ S, S.Ok → ((v.kid i).putV S).2.Ok) → (v.putV S).2.Ok := fun v S ok hk hkid => by
  rcases hk with h | h | h
  · rw [V.putV_num h]; exact ok
  · rw [V.putV_sym h]; exact ⟨ok.words, ok.heads⟩
  · rw [V.putV_con h]
    have := argsTo_ok (f := fun i S => (v.kid i).putV S) (k := v.len) (S := S) hkid ok
    split
    · exact putNodeV_ok this
    · exact this

end Go.Proofs.YtpiehfjgokfdeaaDoor
