/- A gathered row of bytes, of which nothing behind its elements is frozen (as a conversion of a text leaves it): appending to it. -/
import Derived.Lib.FrozenHead2
import Derived.Lib.ConvBytes
import Derived.Test.YtbcljbbdfmeccaaDoorTextR
namespace Go.Proofs.YtbcljbbdfmeccaaDoor
open Go.RowKit Go.ChangeShapes Go.WideShapes

/-- Nothing is frozen from o on, below n. -/
def Free (fz : Nat × Nat) (o n : Nat) : Prop := ∀ j, o ≤ j → j < n → ¬ (fz.1 ≤ j ∧ j < fz.2)

theorem store_free (P : Program) (g o : Nat) (t : TypeId) (fz : Nat × Nat) (vs : List Value) : ∀ (i : Nat) (cur : Array Value) (w : World), w.heap[g]? = some (.cells cur t fz) → Free fz (o + i) cur.size → o + i + vs.length ≤ cur.size → (∀ v ∈ vs, v.oneCell' = true) →
    (storeCells ⟨g, o, none⟩ vs i).run P w = .ok () (w.setRow g (cur.toList.take (o + i) ++ vs ++ cur.toList.drop (o + i + vs.length)).toArray) := by
  induction vs with
  | nil =>
    intro i cur w hg _ _ _
    simp only [storeCells, List.append_nil, List.length_nil, Nat.add_zero, List.take_append_drop, Array.toArray_toList]
    rw [setRow_self w g cur t fz hg]
    rfl
  | cons v rest ih =>
    intro i cur w hg hf hl h1
    simp only [List.length_cons] at hl
    have hadd : (⟨g, o, none⟩ : Addr).add i = ⟨g, o + i, none⟩ := by unfold Addr.add; split <;> simp_all
    have hlt : o + i < cur.size := by omega
    have hcell : w.cell? ⟨g, o + i, none⟩ = some cur[o + i] := by simp [World.cell?, hg, hlt]
    have hfro : w.frozen? ⟨g, o + i, none⟩ = false := by
      have := hf (o + i) (Nat.le_refl _) hlt
      obtain ⟨a, b⟩ := fz
      simp only [World.frozen?, hg]
      cases h : (decide (a ≤ o + i) && decide (o + i < b))
      · rfl
      · simp only [Bool.and_eq_true, decide_eq_true_eq] at h
        exact absurd h this
    have hst : (store ((⟨g, o, none⟩ : Addr).add i) v).run P w = .ok () (w.setRow g (cur.setIfInBounds (o + i) v)) := by
      rw [hadd, run_store P w _ v _ (h1 v (by simp)), hcell]
      simp [hfro, setCell_eq_setRow w g (o + i) cur t fz v hg]
    have hnext := ih (i + 1) (cur.setIfInBounds (o + i) v) (w.setRow g (cur.setIfInBounds (o + i) v)) (setRow_heap w g cur _ t _ hg) (fun j h2 h3 => hf j (by omega) (by simpa using h3)) (by simp; omega) (fun x hx => h1 x (by simp [hx]))
    simp only [storeCells, Sem.run_bind, hst, Result.andThen_ok, hnext, setRow_setRow]
    congr 3
    have e := list_seg_step cur.toList (o + i) v rest (by simp; omega)
    simpa [Array.toList_setIfInBounds, Nat.add_assoc] using e

/-- A row of bytes of one's own. -/
def OwnB (w : World) (base : Nat) (v : Value) (l : List Value) : Prop :=
  ∃ g cap cur fz, v = .slice (some ⟨g, 0, none⟩) l.length cap ∧ base ≤ g ∧ w.heap[g]? = some (.cells cur 5 fz) ∧ Free fz l.length cur.size ∧ l.length ≤ cap ∧ cap ≤ maxLen ∧ cur.size = cap ∧ cur.toList.take l.length = l

theorem OwnB.lt {w : World} {base : Nat} {v : Value} {l : List Value} (h : OwnB w base v l) : ∀ k, v.ownBlock = some k → base ≤ k ∧ k < w.heap.size := by
  intro k hk
  obtain ⟨g, cap, cur, fz, rfl, hb, hg, _⟩ := h
  simp [Value.ownBlock] at hk
  subst hk
  exact ⟨hb, (Array.getElem?_eq_some_iff.1 hg).1⟩
theorem OwnB.cells {w : World} {base g c n : Nat} {l : List Value} (h : OwnB w base (.slice (some ⟨g, 0, none⟩) n c) l) : ∀ j u, l[j]? = some u → w.cell? ((⟨g, 0, none⟩ : Addr).add j) = some u := by
  intro j u hu
  obtain ⟨g', cap, cur, fz, he, _, hg, _, _, _, _, ht⟩ := h
  injection he with he _ _
  injection he with he
  injection he with he _ _
  subst he
  have hadd : (⟨g, 0, none⟩ : Addr).add j = ⟨g, j, none⟩ := by unfold Addr.add; split <;> simp_all
  rw [hadd, cell_of_row w g j cur 5 fz hg]
  rw [← ht, List.getElem?_take] at hu
  split at hu
  · simpa using hu
  · cases hu
/-- What was made anew elsewhere leaves it. -/
theorem OwnB.below {w w' : World} {base : Nat} {v : Value} {l : List Value} (h : OwnB w base v l) (b : Below w.heap.size w w') : OwnB w' base v l := by
  obtain ⟨g, cap, cur, fz, rfl, hb, hg, rest⟩ := h
  exact ⟨g, cap, cur, fz, rfl, hb, (b.block g (Array.getElem?_eq_some_iff.1 hg).1).trans hg, rest⟩

section
variable {P : Program} (w : World)
/-- Written into the row. -/
theorem OwnB.put {base g cap : Nat} {l news : List Value} {cur : Array Value} {fz : Nat × Nat} (hb : base ≤ g) (hg : w.heap[g]? = some (.cells cur 5 fz)) (hf : Free fz l.length cur.size) (hm : cap ≤ maxLen) (hc : cur.size = cap) (ht : cur.toList.take l.length = l) (hr : l.length + news.length ≤ cap) :
    OwnB (w.setRow g (cur.toList.take l.length ++ news ++ cur.toList.drop (l.length + news.length)).toArray) base (.slice (some ⟨g, 0, none⟩) (l.length + news.length) cap) (l ++ news) := by
  refine ⟨g, cap, _, fz, by rw [List.length_append], hb, setRow_heap w g cur _ 5 _ hg, ?_, by rw [List.length_append]; exact hr, hm, ?_, ?_⟩
  · intro j h1 h2
    rw [List.length_append] at h1
    refine hf j (by omega) ?_
    simp only [List.size_toArray, List.length_append, List.length_take, List.length_drop, Array.length_toList] at h2
    omega
  · simp only [List.size_toArray, List.length_append, List.length_take, List.length_drop, Array.length_toList]
    omega
  · rw [ht]
    exact List.take_left
/-- A new row. -/
theorem OwnB.made {base cap : Nat} {l : List Value} (k : Nat) (hb : base ≤ w.heap.size) (hl : l.length ≤ cap) (hm : cap ≤ maxLen) (hk : l.length + k = cap) :
    OwnB (w.alloc (.cells (l.toArray ++ Builtin.zeroCells (Value.int .u8 0).cells k) 5)) base (.slice (some ⟨w.heap.size, 0, none⟩) l.length cap) l := by
  refine ⟨w.heap.size, cap, _, (0, 0), rfl, hb, heap_alloc_new w _, fun j _ _ => by simp, hl, hm, ?_, ?_⟩
  · have hz1 : (Value.int IntKind.u8 0).cells.size = 1 := rfl
    simp only [Array.size_append, List.size_toArray, size_zeroCells, hz1]
    omega
  · simp
end

theorem grown_row {w : World} {g n c : Nat} {x : Array Value} : w.grownBy (w.setRow g x) (Value.slice (some ⟨g, 0, none⟩) n c).ownBlock :=
  ⟨rfl, rfl, rfl, by simp, fun k _ hk => setRow_other w g k _ (fun e => hk (by simp [Value.ownBlock, e]))⟩
theorem grown_new {w : World} {o : Obj} {r : Option Nat} : w.grownBy (w.drew.alloc o) r := ⟨rfl, rfl, rfl, by simp, fun k hk _ => heap_alloc_old w.drew _ hk⟩

/-- A text behind the row. -/
theorem OwnB.text {w : World} {base : Nat} {v : Value} {l : List Value} (h : OwnB w base v l) (s : ByteArray) (ty : TypeId) (h48 : l.length + s.size ≤ 140737488355328) (hbase : base ≤ w.heap.size) :
    ∃ v' w', (Builtin.append_ #[57, 9] ty #[v, .string s]).run Tryd.prog w = .ok v' w' ∧ OwnB w' base v' (l ++ Lib.strCells s) ∧ w.grownBy w' v.ownBlock := by
  obtain ⟨i0, hi, hz0, hz1, hz2⟩ := info_parts info5
  have hc := h
  obtain ⟨g, cap, cur, fz, rfl, hb, hg, hf, hlc, hm, hsz, ht⟩ := h
  have hlen := Lib.strCells_length s
  by_cases hroom : l.length + s.size ≤ cap
  · have hfc := Lib.run_firstCells_string (P := Tryd.prog) w 1 s
    have hst := store_free Tryd.prog g l.length 5 fz (Lib.strCells s) 0 cur w hg (by simpa using hf) (by rw [hlen]; omega) (Lib.strCells_oneCell s)
    simp only [Nat.add_zero] at hst
    refine ⟨.slice (some ⟨g, 0, none⟩) (l.length + (Lib.strCells s).length) cap, _, ?_, OwnB.put w hb hg hf hm hsz ht (by rw [hlen]; exact hroom), grown_row⟩
    rw [hlen] at hst ⊢
    simp [Builtin.append_, run_underlying Tryd.underlying57, run_underlying Tryd.underlying9, sizeOf, typeInfo, hi, hz1, Builtin.lenOf, hroom, hfc, Addr.add_lit, hst]
  · have hr := Lib.run_append_grow_string (P := Tryd.prog) w 57 9 ty 5 i0 (.int .u8 0) Tryd.underlying57 Tryd.underlying9 hi hz0 ⟨g, 0, none⟩ l.length cap l (by rw [hz1]; simp) hc.cells s (by omega) (by omega) (by rw [hz2]; exact growslice_fits (by unfold maxLen at hm; omega) (by omega))
    have hge := grownCap_ge w (l.length + s.size) cap 5
    have hle := grownCap_le_maxLen w (l.length + s.size) cap 5 (by unfold maxLen; omega)
    refine ⟨_, _, hr, ?_, grown_new⟩
    have := OwnB.made (base := base) (cap := grownCap w (l.length + s.size) cap 5) (l := l ++ Lib.strCells s) w.drew (grownCap w (l.length + s.size) cap 5 - (l.length + s.size)) hbase (by rw [List.length_append, hlen]; exact hge) hle (by rw [List.length_append, hlen]; omega)
    rw [List.length_append, hlen] at this
    simpa using this

/-- One byte behind the row, out of a new row of one. -/
theorem OwnB.byte {w : World} {base : Nat} {v : Value} {l : List Value} (h : OwnB w base v l) (a : Addr) (c : Nat) (x : Value) (hx : w.cell? a = some x) (h1 : x.oneCell' = true) (ty : TypeId) (h48 : l.length + 1 ≤ 140737488355328) (hbase : base ≤ w.heap.size) :
    ∃ v' w', (Builtin.append_ #[57, 57] ty #[v, .slice (some a) 1 c]).run Tryd.prog w = .ok v' w' ∧ OwnB w' base v' (l ++ [x]) ∧ w.grownBy w' v.ownBlock := by
  obtain ⟨i0, hi, hz0, hz1, hz2⟩ := info_parts info5
  have hc := h
  obtain ⟨g, cap, cur, fz, rfl, hb, hg, hf, hlc, hm, hsz, ht⟩ := h
  have hnews : ∀ j u, [x][j]? = some u → w.cell? (a.add j) = some u := fun j u hj => by
    match j, hj with
    | 0, hj => simp at hj; subst hj; simpa [Addr.add] using hx
  by_cases hroom : l.length + 1 ≤ cap
  · have hfc := run_firstCells_some (P := Tryd.prog) w i0.size 1 a 1 c [x] (by rw [hz1]; rfl) hnews
    have hst := store_free Tryd.prog g l.length 5 fz [x] 0 cur w hg (by simpa using hf) (by simp; omega) (by simpa using h1)
    simp only [Nat.add_zero] at hst
    refine ⟨.slice (some ⟨g, 0, none⟩) (l.length + [x].length) cap, _, ?_, OwnB.put w hb hg hf hm hsz ht hroom, grown_row⟩
    rw [hz1] at hfc
    simp [Builtin.append_, run_underlying Tryd.underlying57, sizeOf, typeInfo, hi, hz1, Builtin.lenOf, hroom, hfc, Addr.add_lit]
    simp at hst
    simp [hst]
  · have hr := run_append_grow (P := Tryd.prog) w 57 ty 5 i0 (.int .u8 0) Tryd.underlying57 hi hz0 ⟨g, 0, none⟩ l.length cap l (by rw [hz1]; simp) hc.cells a 1 c [x] (by rw [hz1]; rfl) hnews (by omega) (by omega) (by rw [hz2]; exact growslice_fits (by unfold maxLen at hm; omega) (by omega))
    have hge := grownCap_ge w (l.length + 1) cap 5
    have hle := grownCap_le_maxLen w (l.length + 1) cap 5 (by unfold maxLen; omega)
    refine ⟨_, _, hr, ?_, grown_new⟩
    have := OwnB.made (base := base) (cap := grownCap w (l.length + 1) cap 5) (l := l ++ [x]) w.drew (grownCap w (l.length + 1) cap 5 - (l.length + 1)) hbase (by rw [List.length_append]; exact hge) hle (by rw [List.length_append]; simp; omega)
    simpa using this
end Go.Proofs.YtbcljbbdfmeccaaDoor
