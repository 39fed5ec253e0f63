/- Slices whose cells are known, and their copies. -/
import Derived.Test.YthcljhfankooaabGreatBHeads
import Derived.Test.YthcljhfankooaabGreatBLaw
import Derived.Laws.AppendOwn
import Derived.Deep.RegionWith
import Derived.StillTailTactics
import Derived.Lib.SliceRun
namespace Go.Proofs.YthcljhfankooaabGreat
open Go.RowKit

/-- A slice of n cells that are these, in blocks of S. -/
def Row (S : Nat → Prop) (w : World) (v : Value) (n : Nat) (f : Nat → Value) : Prop :=
  ∃ (a : Option Addr) (cap : Nat), v = .slice a n cap ∧ n ≤ cap ∧ cap ≤ 9223372036854775807 ∧ ∀ j, j < n → ∃ b off, a = some ⟨b, off, none⟩ ∧ S b ∧ w.cell? ⟨b, off + j, none⟩ = some (f j)
theorem Row.stays {S : Nat → Prop} {w w' : World} {v : Value} {n : Nat} {f : Nat → Value} (h : Row S w v n f) (hs : Stays S w w') : Row S w' v n f := by
  obtain ⟨a, cap, h1, h2, h3, h4⟩ := h
  refine ⟨a, cap, h1, h2, h3, fun j hj => ?_⟩
  obtain ⟨b, off, e, hb, hc⟩ := h4 j hj
  exact ⟨b, off, e, hb, hs.cell hc hb⟩
theorem Row.later {S : Nat → Prop} {w w' : World} {v : Value} {n : Nat} {f : Nat → Value} (h : Row S w v n f) (hs : Below w.heap.size w w') : Row S w' v n f := h.stays (Stays.of_below hs)
theorem Row.mono {S S' : Nat → Prop} {w : World} {v : Value} {n : Nat} {f : Nat → Value} (h : Row S w v n f) (hs : ∀ b, b < w.heap.size → S b → S' b) : Row S' w v n f := by
  obtain ⟨a, cap, h1, h2, h3, h4⟩ := h
  refine ⟨a, cap, h1, h2, h3, fun j hj => ?_⟩
  obtain ⟨b, off, e, hb, hc⟩ := h4 j hj
  obtain ⟨o, ho, _⟩ := cells_of_cell hc
  exact ⟨b, off, e, hs b (lt_heap ho) hb, hc⟩
theorem Row.congr {S : Nat → Prop} {w : World} {v : Value} {n : Nat} {f g : Nat → Value} (h : Row S w v n f) (hs : ∀ j, j < n → f j = g j) : Row S w v n g := by
  obtain ⟨a, cap, h1, h2, h3, h4⟩ := h
  refine ⟨a, cap, h1, h2, h3, fun j hj => ?_⟩
  rw [← hs j hj]
  exact h4 j hj
theorem Row.nil (S : Nat → Prop) (w : World) (f : Nat → Value) : Row S w (.slice none 0 0) 0 f := ⟨none, 0, rfl, Nat.le_refl _, by omega, fun j hj => by omega⟩
/-- A part of it, from i to k. -/
theorem Row.cut {S : Nat → Prop} {w : World} {a : Option Addr} {n cap : Nat} {f : Nat → Value} (h : Row S w (.slice a n cap) n f) {k : Nat} (hk : k ≤ n) : Row S w (.slice a k cap) k f := by
  obtain ⟨a', cap', h1, h2, h3, h4⟩ := h
  cases h1
  exact ⟨a, cap, rfl, by omega, h3, fun j hj => h4 j (by omega)⟩
theorem Row.tail {S : Nat → Prop} {w : World} {b off n cap : Nat} {f : Nat → Value} (h : Row S w (.slice (some ⟨b, off, none⟩) n cap) n f) {i : Nat} (hi : i ≤ n) : Row S w (.slice (some ⟨b, off + i, none⟩) (n - i) (cap - i)) (n - i) (fun j => f (i + j)) := by
  obtain ⟨a', cap', h1, h2, h3, h4⟩ := h
  cases h1
  refine ⟨_, _, rfl, by omega, by omega, fun j hj => ?_⟩
  obtain ⟨b', off', e, hb, hc⟩ := h4 (i + j) (by omega)
  cases e
  exact ⟨b, off + i, rfl, hb, by rw [Nat.add_assoc]; exact hc⟩
/-- Of an own row. -/
theorem Row.of_own {base : Nat} {w : World} {e : TypeId} {v : Value} {n : Nat} {f : Nat → Value} (h : w.ownsRow base e 1 v n ((List.range n).map f)) : Row (fun b => base ≤ b) w v n f := by
  rcases h.2 with ⟨rfl, h0⟩ | ⟨g, cap, cur, rfl, hb, hg, hn, hm, hs, ht⟩
  · subst h0; exact Row.nil _ _ _
  · refine ⟨_, cap, rfl, hn, by unfold maxLen at hm; omega, fun j hj => ⟨g, 0, rfl, hb, ?_⟩⟩
    have := World.ownsRow.cellAt h j (by omega)
    rw [Nat.zero_add, this, List.getElem?_map, List.getElem?_range (by omega)]
    rfl

/-- Numbers. -/
def IntsS (S : Nat → Prop) (w : World) (v : Value) (l : List Int) : Prop := Row S w v l.length (fun j => .int .i64 (l.getD j 0))
theorem IntsS.ints {S : Nat → Prop} {w : World} {v : Value} {l : List Int} (h : IntsS S w v l) : Ints w.heap.size w v l := by
  obtain ⟨a, cap, h1, h2, h3, h4⟩ := h
  refine ⟨a, cap, h1, h2, h3, fun j x hj => ?_⟩
  obtain ⟨b, off, e, _, hc⟩ := h4 j (List.getElem?_eq_some_iff.1 hj).1
  obtain ⟨o, ho, _⟩ := cells_of_cell hc
  exact ⟨b, off, e, lt_heap ho, by rw [hc]; simp [hj]⟩
theorem IntsS.of_ints {B : Nat} {S : Nat → Prop} {w : World} {v : Value} {l : List Int} (h : Ints B w v l) (hS : ∀ b, b < B → S b) : IntsS S w v l := by
  obtain ⟨a, cap, h1, h2, h3, h4⟩ := h
  refine ⟨a, cap, h1, h2, h3, fun j hj => ?_⟩
  obtain ⟨b, off, e, hB, hc⟩ := h4 j l[j] (by simp [hj])
  exact ⟨b, off, e, hS b hB, by rw [hc]; simp [hj]⟩
theorem IntsS.stays {S : Nat → Prop} {w w' : World} {v : Value} {l : List Int} (h : IntsS S w v l) (hs : Stays S w w') : IntsS S w' v l := Row.stays h hs
theorem IntsS.later {S : Nat → Prop} {w w' : World} {v : Value} {l : List Int} (h : IntsS S w v l) (hs : Below w.heap.size w w') : IntsS S w' v l := Row.later h hs
theorem IntsS.mono {S S' : Nat → Prop} {w : World} {v : Value} {l : List Int} (h : IntsS S w v l) (hs : ∀ b, b < w.heap.size → S b → S' b) : IntsS S' w v l := Row.mono h hs
theorem IntsS.nil (S : Nat → Prop) (w : World) : IntsS S w (.slice none 0 0) [] := Row.nil S w _
/-- A row of numbers that was made since. -/
def OwnI (base : Nat) (w : World) (v : Value) (l : List Int) : Prop := w.ownsRow base 3 1 v l.length (l.map (Value.int .i64))
theorem map_range (l : List Int) : (List.range l.length).map (fun j => Value.int .i64 (l.getD j 0)) = l.map (Value.int .i64) := by
  apply List.ext_getElem
  · simp
  · intro i h1 h2
    simp at h1
    simp [h1]
theorem OwnI.intsS {base : Nat} {w : World} {v : Value} {l : List Int} (h : OwnI base w v l) : IntsS (fun b => base ≤ b) w v l := by
  unfold OwnI at h
  rw [← map_range] at h
  exact Row.of_own h

theorem infoI : ∃ i, Tryz.prog.info? 3 = some i ∧ i.zero = some (.int .i64 0) ∧ i.size = 1 ∧ i.bytes = 8 := by
  have h : (Tryz.prog.info? 3).map (fun i => (i.zero, i.size, i.bytes)) = some (some (.int .i64 0), 1, 8) := by kernel_rfl
  cases e : Tryz.prog.info? 3 with
  | none => rw [e] at h; cases h
  | some i => rw [e] at h; simp at h; exact ⟨i, rfl, h.1, h.2.1, h.2.2⟩
theorem infoT : ∃ i, Tryz.prog.info? 32 = some i ∧ i.zero = some (.slice none 0 0) ∧ i.size = 1 ∧ i.bytes = 24 := by
  have h : (Tryz.prog.info? 32).map (fun i => (i.zero, i.size, i.bytes)) = some (some (.slice none 0 0), 1, 24) := by kernel_rfl
  cases e : Tryz.prog.info? 32 with
  | none => rw [e] at h; cases h
  | some i => rw [e] at h; simp at h; exact ⟨i, rfl, h.1, h.2.1, h.2.2⟩
theorem infoK : ∃ i, Tryz.prog.info? 100 = some i ∧ i.zero = some (.pointer none) ∧ i.size = 1 ∧ i.bytes = 8 := by
  have h : (Tryz.prog.info? 100).map (fun i => (i.zero, i.size, i.bytes)) = some (some (.pointer none), 1, 8) := by kernel_rfl
  cases e : Tryz.prog.info? 100 with
  | none => rw [e] at h; cases h
  | some i => rw [e] at h; simp at h; exact ⟨i, rfl, h.1, h.2.1, h.2.2⟩

set_option maxRecDepth 100000 in
set_option maxHeartbeats 2000000 in
/-- A copy. -/
theorem cloneI_any (S : Nat → Prop) (w : World) (v : Value) (n : Nat) (f : Nat → Value) (h : Row S w v n f) (h1 : ∀ j, j < n → (f j).oneCell' = true) (hn : n * 8 ≤ 140737488355328) :
    Calls Tryz.prog 36 #[v] w fun e w' => ∃ r, e = .returned r ∧ w'.ownsRow w.heap.size 3 1 r n ((List.range n).map f) ∧ Below w.heap.size w w' := by
  obtain ⟨a, cap, rfl, hc1, hc2, hcell⟩ := h
  have HC := hide hcell
  clear hcell
  obtain ⟨i0, hi, hz0, hz1, hz2⟩ := infoI
  have HI := hide (And.intro hi (And.intro hz0 (And.intro hz1 hz2)))
  clear hi hz0 hz1 hz2
  have q : ∀ (w : World) (a : Option Addr) (n c n' c' : Nat), (binOp .eql 32 (.slice a n c) (.slice none n' c')).run Tryz.prog w = .ok (.bool a.isNone) w := fun w a n c n' c' => Lib.run_eql_slice_nil w _ _ a n c n' c' Tryz.underlying32
  cases a with
  | none =>
    have hn0 : n = 0 := by
      rcases Nat.eq_zero_or_pos n with h0 | h0
      · exact h0
      · obtain ⟨b, off, e, _⟩ := unhide HC 0 h0
        cases e
    subst hn0
    go_enter Tryz.func36, Tryz.ntmps36
    go_wp2_with fail
    go_ret
    exact ⟨_, rfl, World.ownsRow_nil _ _ _ _, Below.refl _ _⟩
  | some ad =>
    have HC2 : Hid (∀ j, j < n → w.cell? (ad.add j) = some (f j)) := fun j hj => by
      obtain ⟨b, off, e, _, hc⟩ := unhide HC j hj
      cases e
      rw [Addr.add_lit]
      exact hc
    have H1 := hide h1
    have hown := World.ownsRow_made (base := w.heap.size) (e := 3) (size := 1) w #[] 0 (Nat.le_refl _) (by unfold maxLen; omega) rfl
    have HO := hide hown
    have HN : Hid (∀ j u, ((List.range n).map f)[j]? = some u → (w.alloc (.cells #[] 3)).cell? (ad.add j) = some u) := fun j u hj => by
      rw [List.getElem?_map] at hj
      by_cases hlt : j < n
      · rw [List.getElem?_range hlt] at hj
        cases hj
        have hc := unhide HC2 j hlt
        obtain ⟨o, ho, _⟩ := cells_of_cell hc
        exact (World.cell?_of_block (Below.heap_alloc _ _ _ (lt_heap ho))).trans hc
      · rw [List.getElem?_eq_none (by simp; omega)] at hj
        cases hj
    have HE : Hid (∀ u ∈ (List.range n).map f, u.oneCell' = true) := fun u hu => by
      obtain ⟨j, hj, rfl⟩ := List.mem_map.1 hu
      exact h1 j (List.mem_range.1 hj)
    have HS : Hid (0 + n ≤ maxLen ∧ (0 + n) * 8 ≤ 140737488355328) := ⟨by unfold maxLen; omega, by omega⟩
    clear HC h1 hown H1 HC2
    go_enter Tryz.func36, Tryz.ntmps36
    go_wp2_with (at_builtin; refine wpList_append_own _ rfl _ _ 32 rfl w.heap.size 3 i0 (.int .i64 0) 1 8 Tryz.underlying32 (unhide HI).1 (unhide HI).2.1 (unhide HI).2.2.1 (unhide HI).2.2.2 rfl (by decide) _ _ _ rfl (unhide HO) ad n cap ((List.range n).map f) rfl (by simp) (unhide HN) (unhide HE) (unhide HS).1 (unhide HS).2 (by simp) ?_; intro v' w3 hown hgrow hnil)
    go_ret
    refine ⟨_, rfl, by simpa using hown, ((Below.refl _ w).alloc (Nat.le_refl _) _).grown hgrow (by simp) (fun k e => ?_)⟩
    have e2 : some w.heap.size = some k := e
    cases e2
    exact Nat.le_refl _

set_option maxRecDepth 100000 in
set_option maxHeartbeats 2000000 in
/-- A copy. -/
theorem cloneT_any (S : Nat → Prop) (w : World) (v : Value) (n : Nat) (f : Nat → Value) (h : Row S w v n f) (h1 : ∀ j, j < n → (f j).oneCell' = true) (hn : n * 24 ≤ 140737488355328) :
    Calls Tryz.prog 123 #[v] w fun e w' => ∃ r, e = .returned r ∧ w'.ownsRow w.heap.size 32 1 r n ((List.range n).map f) ∧ Below w.heap.size w w' := by
  obtain ⟨a, cap, rfl, hc1, hc2, hcell⟩ := h
  have HC := hide hcell
  clear hcell
  obtain ⟨i0, hi, hz0, hz1, hz2⟩ := infoT
  have HI := hide (And.intro hi (And.intro hz0 (And.intro hz1 hz2)))
  clear hi hz0 hz1 hz2
  have q : ∀ (w : World) (a : Option Addr) (n c n' c' : Nat), (binOp .eql 22 (.slice a n c) (.slice none n' c')).run Tryz.prog w = .ok (.bool a.isNone) w := fun w a n c n' c' => Lib.run_eql_slice_nil w _ _ a n c n' c' Tryz.underlying22
  cases a with
  | none =>
    have hn0 : n = 0 := by
      rcases Nat.eq_zero_or_pos n with h0 | h0
      · exact h0
      · obtain ⟨b, off, e, _⟩ := unhide HC 0 h0
        cases e
    subst hn0
    go_enter Tryz.func123, Tryz.ntmps123
    go_wp2_with fail
    go_ret
    exact ⟨_, rfl, World.ownsRow_nil _ _ _ _, Below.refl _ _⟩
  | some ad =>
    have HC2 : Hid (∀ j, j < n → w.cell? (ad.add j) = some (f j)) := fun j hj => by
      obtain ⟨b, off, e, _, hc⟩ := unhide HC j hj
      cases e
      rw [Addr.add_lit]
      exact hc
    have H1 := hide h1
    have hown := World.ownsRow_made (base := w.heap.size) (e := 32) (size := 1) w #[] 0 (Nat.le_refl _) (by unfold maxLen; omega) rfl
    have HO := hide hown
    have HN : Hid (∀ j u, ((List.range n).map f)[j]? = some u → (w.alloc (.cells #[] 32)).cell? (ad.add j) = some u) := fun j u hj => by
      rw [List.getElem?_map] at hj
      by_cases hlt : j < n
      · rw [List.getElem?_range hlt] at hj
        cases hj
        have hc := unhide HC2 j hlt
        obtain ⟨o, ho, _⟩ := cells_of_cell hc
        exact (World.cell?_of_block (Below.heap_alloc _ _ _ (lt_heap ho))).trans hc
      · rw [List.getElem?_eq_none (by simp; omega)] at hj
        cases hj
    have HE : Hid (∀ u ∈ (List.range n).map f, u.oneCell' = true) := fun u hu => by
      obtain ⟨j, hj, rfl⟩ := List.mem_map.1 hu
      exact h1 j (List.mem_range.1 hj)
    have HS : Hid (0 + n ≤ maxLen ∧ (0 + n) * 24 ≤ 140737488355328) := ⟨by unfold maxLen; omega, by omega⟩
    clear HC h1 hown H1 HC2
    go_enter Tryz.func123, Tryz.ntmps123
    go_wp2_with (at_builtin; refine wpList_append_own _ rfl _ _ 22 rfl w.heap.size 32 i0 (.slice none 0 0) 1 24 Tryz.underlying22 (unhide HI).1 (unhide HI).2.1 (unhide HI).2.2.1 (unhide HI).2.2.2 rfl (by decide) _ _ _ rfl (unhide HO) ad n cap ((List.range n).map f) rfl (by simp) (unhide HN) (unhide HE) (unhide HS).1 (unhide HS).2 (by simp) ?_; intro v' w3 hown hgrow hnil)
    go_ret
    refine ⟨_, rfl, by simpa using hown, ((Below.refl _ w).alloc (Nat.le_refl _) _).grown hgrow (by simp) (fun k e => ?_)⟩
    have e2 : some w.heap.size = some k := e
    cases e2
    exact Nat.le_refl _

set_option maxRecDepth 100000 in
set_option maxHeartbeats 2000000 in
/-- A copy. -/
theorem cloneK_any (S : Nat → Prop) (w : World) (v : Value) (n : Nat) (f : Nat → Value) (h : Row S w v n f) (h1 : ∀ j, j < n → (f j).oneCell' = true) (hn : n * 8 ≤ 140737488355328) :
    Calls Tryz.prog 144 #[v] w fun e w' => ∃ r, e = .returned r ∧ w'.ownsRow w.heap.size 100 1 r n ((List.range n).map f) ∧ Below w.heap.size w w' := by
  obtain ⟨a, cap, rfl, hc1, hc2, hcell⟩ := h
  have HC := hide hcell
  clear hcell
  obtain ⟨i0, hi, hz0, hz1, hz2⟩ := infoK
  have HI := hide (And.intro hi (And.intro hz0 (And.intro hz1 hz2)))
  clear hi hz0 hz1 hz2
  have q : ∀ (w : World) (a : Option Addr) (n c n' c' : Nat), (binOp .eql 169 (.slice a n c) (.slice none n' c')).run Tryz.prog w = .ok (.bool a.isNone) w := fun w a n c n' c' => Lib.run_eql_slice_nil w _ _ a n c n' c' Tryz.underlying169
  cases a with
  | none =>
    have hn0 : n = 0 := by
      rcases Nat.eq_zero_or_pos n with h0 | h0
      · exact h0
      · obtain ⟨b, off, e, _⟩ := unhide HC 0 h0
        cases e
    subst hn0
    go_enter Tryz.func144, Tryz.ntmps144
    go_wp2_with fail
    go_ret
    exact ⟨_, rfl, World.ownsRow_nil _ _ _ _, Below.refl _ _⟩
  | some ad =>
    have HC2 : Hid (∀ j, j < n → w.cell? (ad.add j) = some (f j)) := fun j hj => by
      obtain ⟨b, off, e, _, hc⟩ := unhide HC j hj
      cases e
      rw [Addr.add_lit]
      exact hc
    have H1 := hide h1
    have hown := World.ownsRow_made (base := w.heap.size) (e := 100) (size := 1) w #[] 0 (Nat.le_refl _) (by unfold maxLen; omega) rfl
    have HO := hide hown
    have HN : Hid (∀ j u, ((List.range n).map f)[j]? = some u → (w.alloc (.cells #[] 100)).cell? (ad.add j) = some u) := fun j u hj => by
      rw [List.getElem?_map] at hj
      by_cases hlt : j < n
      · rw [List.getElem?_range hlt] at hj
        cases hj
        have hc := unhide HC2 j hlt
        obtain ⟨o, ho, _⟩ := cells_of_cell hc
        exact (World.cell?_of_block (Below.heap_alloc _ _ _ (lt_heap ho))).trans hc
      · rw [List.getElem?_eq_none (by simp; omega)] at hj
        cases hj
    have HE : Hid (∀ u ∈ (List.range n).map f, u.oneCell' = true) := fun u hu => by
      obtain ⟨j, hj, rfl⟩ := List.mem_map.1 hu
      exact h1 j (List.mem_range.1 hj)
    have HS : Hid (0 + n ≤ maxLen ∧ (0 + n) * 8 ≤ 140737488355328) := ⟨by unfold maxLen; omega, by omega⟩
    clear HC h1 hown H1 HC2
    go_enter Tryz.func144, Tryz.ntmps144
    go_wp2_with (at_builtin; refine wpList_append_own _ rfl _ _ 169 rfl w.heap.size 100 i0 (.pointer none) 1 8 Tryz.underlying169 (unhide HI).1 (unhide HI).2.1 (unhide HI).2.2.1 (unhide HI).2.2.2 rfl (by decide) _ _ _ rfl (unhide HO) ad n cap ((List.range n).map f) rfl (by simp) (unhide HN) (unhide HE) (unhide HS).1 (unhide HS).2 (by simp) ?_; intro v' w3 hown hgrow hnil)
    go_ret
    refine ⟨_, rfl, by simpa using hown, ((Below.refl _ w).alloc (Nat.le_refl _) _).grown hgrow (by simp) (fun k e => ?_)⟩
    have e2 : some w.heap.size = some k := e
    cases e2
    exact Nat.le_refl _

theorem cloneL_any (S : Nat → Prop) (w : World) (v : Value) (l : List Int) (h : IntsS S w v l) (hn : l.length * 8 ≤ 140737488355328) :
    Calls Tryz.prog 36 #[v] w fun e w' => ∃ r, e = .returned r ∧ OwnI w.heap.size w' r l ∧ Below w.heap.size w w' :=
  (cloneI_any S w v l.length _ h (fun _ _ => rfl) hn).mono fun e w' ⟨r, he, ho, hb⟩ => ⟨r, he, by unfold OwnI; rw [← map_range]; exact ho, hb⟩
end Go.Proofs.YthcljhfankooaabGreat
