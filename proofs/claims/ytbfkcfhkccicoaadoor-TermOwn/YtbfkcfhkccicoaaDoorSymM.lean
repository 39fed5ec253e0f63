/- A table of texts in memory: the struct, what it holds, the row of texts and the map; what stays when one of them turns. -/
import Derived.Test.YtbfkcfhkccicoaaDoorSymT
import Derived.Test.YtbfkcfhkccicoaaDoorStdB
import Derived.Maps.AppendAt
import Derived.RangeFuncBox
import Derived.WalkKit
namespace Go.Proofs.YtbfkcfhkccicoaaDoor.Sym
open Go.RowKit Go.Maps

theorem _root_.Go.Proofs.YtbfkcfhkccicoaaDoor.Turn.of_grownBy {S : Nat → Prop} {w w' : World} {row : Option Nat} (h : w.grownBy w' row) (hr : ∀ k, row = some k → S k) : Turn S w w' :=
  ⟨h.os, h.tape, h.output, h.size, fun k hk hn => h.block k hk (fun e => hn (hr k e.symm))⟩

/-- A row of texts, a slice of the call's own. -/
abbrev Row (W : World) (base : Nat) (a : Option Addr) (cap : Nat) (xs : List ByteArray) : Prop :=
  W.ownsRow base 9 1 (.slice a xs.length cap) xs.length (xs.map Value.string)

/-- A table at block tb: what it holds at hb, its map at mb, the row at a. -/
structure Tab (W : World) (base tb hb mb : Nat) (a : Option Addr) (cap : Nat) (xs : List ByteArray) : Prop where
  tab : W.heap[tb]? = some (.cells #[.pointer (some ⟨hb, 0, none⟩)] 68 (0, 0))
  held : W.heap[hb]? = some (.cells #[.slice a xs.length cap, .map (some mb)] 66 (0, 0))
  row : Row W base a cap xs
  len : xs.length ≤ 16384
  map : ∃ D : DataW Unit, W.ownsMap Tryd.prog 9 (plainElem Tryd.prog 3) mb xs.length D ∧ Ties D xs
  from_ : base ≤ hb ∧ base ≤ mb ∧ base ≤ W.heap.size

/-- The blocks that a put may turn. -/
def mine (hb mb : Nat) (a : Option Addr) (k : Nat) : Prop := k = hb ∨ k = mb ∨ a.map Addr.block = some k

theorem own_slice (a : Option Addr) (n cap : Nat) : Value.ownBlock (.slice a n cap) = a.map Addr.block := by cases a <;> rfl

theorem lt_of_heap {W : World} {k : Nat} {o : Obj} (h : W.heap[k]? = some o) : k < W.heap.size := (Array.getElem?_eq_some_iff.1 h).1

section
variable {W : World} {base tb hb mb : Nat} {a : Option Addr} {cap : Nat} {xs : List ByteArray}

theorem Row.lt (h : Row W base a cap xs) : ∀ k, a.map Addr.block = some k → base ≤ k ∧ k < W.heap.size := fun k e =>
  World.ownsRow.lt h k (by rw [own_slice]; exact e)
theorem Row.obj (h : Row W base a cap xs) : ∀ k, a.map Addr.block = some k → ∃ cur, W.heap[k]? = some (.cells cur 9 (0, 0)) := fun k e => by
  rcases h.2 with ⟨e1, _⟩ | ⟨g, c, cur, e1, _, hg, _⟩
  · injection e1 with e2 _ _; subst e2; simp at e
  · injection e1 with e2 _ _; subst e2
    have : g = k := by simpa using e
    subst this
    exact ⟨cur, hg⟩
theorem Tab.c0 (h : Tab W base tb hb mb a cap xs) : W.cell? ⟨tb, 0, none⟩ = some (.pointer (some ⟨hb, 0, none⟩)) := by simp [World.cell?, h.tab]
theorem Tab.c1 (h : Tab W base tb hb mb a cap xs) : W.cell? ⟨hb, 0, none⟩ = some (.slice a xs.length cap) := by simp [World.cell?, h.held]
theorem Tab.c2 (h : Tab W base tb hb mb a cap xs) : W.cell? ⟨hb, 1, none⟩ = some (.map (some mb)) := by simp [World.cell?, h.held]
theorem Tab.f1 (h : Tab W base tb hb mb a cap xs) : W.frozen? ⟨hb, 0, none⟩ = false := by simp [World.frozen?, h.held]
theorem Tab.mb_obj (h : Tab W base tb hb mb a cap xs) : ∃ es clock, W.heap[mb]? = some (.map es clock) := by
  obtain ⟨D, ⟨es, clock, hm, _⟩, _⟩ := h.map
  exact ⟨es, clock, hm⟩
theorem Tab.hb_mb (h : Tab W base tb hb mb a cap xs) : hb ≠ mb := fun e => by
  obtain ⟨es, clock, hm⟩ := h.mb_obj
  have := h.held
  rw [e, hm] at this
  cases this
theorem Tab.tb_hb (h : Tab W base tb hb mb a cap xs) : tb ≠ hb := fun e => by
  have h1 := h.tab
  rw [e, h.held] at h1
  simp at h1
theorem Tab.tb_mb (h : Tab W base tb hb mb a cap xs) : tb ≠ mb := fun e => by
  obtain ⟨es, clock, hm⟩ := h.mb_obj
  have := h.tab
  rw [e, hm] at this
  cases this
theorem Tab.row_ne (h : Tab W base tb hb mb a cap xs) : ∀ k, a.map Addr.block = some k → k ≠ tb ∧ k ≠ hb ∧ k ≠ mb := fun k e => by
  obtain ⟨cur, hc⟩ := h.row.obj k e
  refine ⟨fun e2 => ?_, fun e2 => ?_, fun e2 => ?_⟩
  · subst e2; have h1 := h.tab; rw [hc] at h1; simp at h1
  · subst e2; have h1 := h.held; rw [hc] at h1; simp at h1
  · subst e2
    obtain ⟨es, clock, hm⟩ := h.mb_obj
    rw [hc] at hm; cases hm
theorem Tab.tb_not (h : Tab W base tb hb mb a cap xs) : ¬ mine hb mb a tb := by
  rintro (e | e | e)
  · exact h.tb_hb e
  · exact h.tb_mb e
  · exact (h.row_ne _ e).1 rfl
theorem Tab.mine_lt (h : Tab W base tb hb mb a cap xs) : ∀ k, mine hb mb a k → base ≤ k ∧ k < W.heap.size := by
  rintro k (e | e | e)
  · subst e; exact ⟨h.from_.1, lt_of_heap h.held⟩
  · subst e; obtain ⟨es, clock, hm⟩ := h.mb_obj; exact ⟨h.from_.2.1, lt_of_heap hm⟩
  · exact h.row.lt k e

/-- A table stays where its blocks stay. -/
theorem Row.stays {W' : World} {S : Nat → Prop} (h : Row W base a cap xs) (t : Turn S W W') (hS : ∀ k, a.map Addr.block = some k → ¬ S k) : Row W' base a cap xs := by
  refine ⟨h.1, ?_⟩
  rcases h.2 with e | ⟨g, c, cur, e1, hb, hg, h3⟩
  · exact .inl e
  · have e2 : a = some ⟨g, 0, none⟩ := by injection e1
    exact .inr ⟨g, c, cur, e1, hb, (t.block g (lt_of_heap hg) (hS g (by rw [e2]; rfl))).trans hg, h3⟩
theorem Tab.stays {W' : World} {S : Nat → Prop} (h : Tab W base tb hb mb a cap xs) (t : Turn S W W') (hS : ∀ k, (k = tb ∨ mine hb mb a k) → ¬ S k) : Tab W' base tb hb mb a cap xs := by
  obtain ⟨D, hm, hD⟩ := h.map
  have hm2 := hm
  obtain ⟨es, clock, hmb, hr⟩ := hm
  exact ⟨(t.block tb (lt_of_heap h.tab) (hS tb (.inl rfl))).trans h.tab, (t.block hb (lt_of_heap h.held) (hS hb (.inr (.inl rfl)))).trans h.held,
    h.row.stays t (fun k e => hS k (.inr (.inr (.inr e)))), h.len,
    ⟨D, ⟨es, clock, (t.block mb (lt_of_heap hmb) (hS mb (.inr (.inr (.inl rfl))))).trans hmb, hr⟩, hD⟩, h.from_.1, h.from_.2.1, Nat.le_trans h.from_.2.2 t.size⟩
theorem Tab.later {W' : World} (h : Tab W base tb hb mb a cap xs) (t : Below W.heap.size W W') : Tab W' base tb hb mb a cap xs :=
  h.stays (S := fun _ => False) (Turn.of_below t) (fun _ _ e => e)

/-- A slice that was read once: its cells hold these texts. -/
def Reads (W : World) (a : Option Addr) (xs : List ByteArray) : Prop :=
  ∀ j x, xs[j]? = some x → ∃ g, a = some ⟨g, 0, none⟩ ∧ W.cell? ⟨g, j, none⟩ = some (.string x)

theorem Row.reads (h : Row W base a cap xs) : Reads W a xs := fun j x hj => by
  rcases h.2 with ⟨e1, e0⟩ | ⟨g, c, cur, e1, _, hg, _⟩
  · rw [List.length_eq_zero_iff] at e0; subst e0; simp at hj
  · have e2 : a = some ⟨g, 0, none⟩ := by injection e1
    refine ⟨g, e2, ?_⟩
    have := World.ownsRow.cells h (g := g) (by rw [own_slice, e2]; rfl) j (.string x) (by simp [hj])
    cases j <;> simpa [Addr.add] using this
end

/-- append of one text onto a row of the call's own: the elder row stays where a new one is made. -/
theorem run_append_text (w : World) (base : Nat) (ty : TypeId) (a : Option Addr) (cap : Nat) (xs : List ByteArray) (h : Row w base a cap xs) (x : ByteArray) (ad : Addr)
    (hx : w.cell? (ad.add 0) = some (.string x)) (hn : xs.length + 1 ≤ 16385) (hbase : base ≤ w.heap.size) :
    ∃ a' cap' w', (Builtin.append_ #[25, 25] ty #[.slice a xs.length cap, .slice (some ad) 1 1]).run Tryd.prog w = .ok (.slice a' (xs.length + 1) cap') w' ∧ Row w' base a' cap' (xs ++ [x]) ∧ w.grownBy w' (a.map Addr.block) ∧
      ((a' = a ∧ a ≠ none) ∨ (a'.map Addr.block = some w.heap.size ∧ w.grownBy w' none)) := by
  obtain ⟨i0, hi, hz0, hz1, hz2⟩ := info_parts (show (Tryd.prog.info? 9).map (fun i => (i.zero, i.size, i.bytes)) = some (some (.string ⟨#[]⟩), 1, 16) by kernel_rfl)
  have hnews : ∀ j u, [Value.string x][j]? = some u → w.cell? (ad.add j) = some u := by
    intro j u hj
    match j, hj with
    | 0, hj => simp at hj; subst hj; exact hx
  obtain ⟨v', w', hr, h1, h2, h3, h4⟩ := run_append_own_at (P := Tryd.prog) w base 25 ty 9 i0 (.string ⟨#[]⟩) 1 16 Tryd.underlying25 hi hz0 hz1 hz2 rfl (by decide) _ xs.length _ h ad 1 1 [.string x] rfl hnews (by simp [Value.oneCell'])
    (by unfold maxLen; omega) (by omega) hbase
  obtain ⟨g', cap', rfl⟩ := ownsRow_succ h1
  refine ⟨some ⟨g', 0, none⟩, cap', w', hr, by simpa [Row] using h1, by simpa [own_slice] using h2, ?_⟩
  rw [own_slice, own_slice] at h4
  rcases h.2 with ⟨e1, e0⟩ | ⟨g, c, cur, e1, hb, hg, hnc, hcm, hcs, ht⟩
  · have ea : a = none := by injection e1
    subst ea
    rcases h4 with h4 | h4
    · simp at h4
    · exact .inr ⟨h4, h2⟩
  · injection e1 with ea _ ec
    subst ea
    subst ec
    by_cases hroom : xs.length + 1 ≤ cap
    · have hr2 := run_append_room (P := Tryd.prog) w 25 ty 9 i0 Tryd.underlying25 hi g xs.length cap cur hg ad 1 1 [.string x] (by rw [hz1]; rfl) hnews (by simp [Value.oneCell']) hroom (by rw [hz1, hcs]; simp; omega)
      rw [hr] at hr2
      injection hr2 with e2 _
      injection e2 with e3 _ _
      exact .inl ⟨e3, by simp⟩
    · have hr2 := run_append_grow (P := Tryd.prog) w 25 ty 9 i0 (.string ⟨#[]⟩) Tryd.underlying25 hi hz0 ⟨g, 0, none⟩ xs.length cap (xs.map Value.string) (by rw [hz1]; simp) (World.ownsRow.cells h (g := g) rfl) ad 1 1 [.string x] (by rw [hz1]; rfl) hnews (by omega) (by omega) (growslice_fits (by omega) (by rw [hz2]; omega))
      rw [hr] at hr2
      injection hr2 with e2 e3
      injection e2 with e4 _ _
      refine .inr ⟨by rw [e4]; rfl, ?_⟩
      rw [e3]
      exact ⟨rfl, rfl, rfl, by simp, fun k hk _ => Below.heap_alloc w.drew _ k hk⟩

/-- The same, at the operation. -/
theorem wpList_append_text (w : World) {ops : Array Oper} {rest : List Oper} {o : Oper} {act : Act} {Q : Exit → Act → World → Prop} (hgd : o.guard = none) (s x : Operand)
    (ho : o.op = .call { callee := .builtin .append, args := #[s, x], argTypes := #[25, 25] })
    (base : Nat) (a : Option Addr) (cap : Nat) (xs : List ByteArray) (t : ByteArray) (ad : Addr) (hs : act.eval s = .slice a xs.length cap) (h : Row w base a cap xs)
    (hx : act.eval x = .slice (some ad) 1 1) (ht : w.cell? (ad.add 0) = some (.string t)) (hn : xs.length + 1 ≤ 16385) (hbase : base ≤ w.heap.size)
    (hK : ∀ a' cap' w', Row w' base a' cap' (xs ++ [t]) → w.grownBy w' (a.map Addr.block) → ((a' = a ∧ a ≠ none) ∨ (a'.map Addr.block = some w.heap.size ∧ w.grownBy w' none)) →
      wpList Tryd.prog ops Q rest (act.put o.dst (.slice a' (xs.length + 1) cap')) w') : wpList Tryd.prog ops Q (o :: rest) act w := by
  refine wpList_plain hgd fun K hKK => ?_
  obtain ⟨a', cap', w', hr, h1, h2, h3⟩ := run_append_text w base o.type a cap xs h t ad ht hn hbase
  unfold Oper.wp
  simp only [execOp, ho, resolve, invoke, builtin, Sem.run_bind, Sem.run_pure, Result.andThen_ok, List.map_toArray, List.map_cons, List.map_nil, hs, hx, hr]
  exact hKK _ _ (hK a' cap' w' h1 h2 h3)

/-- What a put leaves: the table with one more, and where its row lies; a slice that was read before still reads as it did. -/
structure Left (W W' : World) (base tb hb mb : Nat) (a : Option Addr) (xs xs' : List ByteArray) (a' : Option Addr) (cap' : Nat) : Prop where
  tab : Tab W' base tb hb mb a' cap' xs'
  turn : Turn (mine hb mb a) W W'
  at_ : a' = a ∨ ∃ g, a'.map Addr.block = some g ∧ W.heap.size ≤ g
  old : ∀ (u : Option Addr) (ys : List ByteArray), Reads W u ys → (u = a → ys <+: xs) → Reads W' u ys

theorem Reads.later {W W' : World} {u : Option Addr} {ys : List ByteArray} (h : Reads W u ys) (t : Below W.heap.size W W') : Reads W' u ys := fun j x hj => by
  obtain ⟨g, e, hc⟩ := h j x hj
  exact ⟨g, e, (t.cell (p := ⟨g, j, none⟩) (World.block_lt_of_cell? W _ hc)).trans hc⟩

theorem Left.refl {W : World} {base tb hb mb : Nat} {a : Option Addr} {cap : Nat} {xs : List ByteArray} (h : Tab W base tb hb mb a cap xs) : Left W W base tb hb mb a xs xs a cap :=
  ⟨h, Turn.refl _ _, .inl rfl, fun _ _ hr _ => hr⟩

theorem left_of {W U w2 w4 : World} {base tb hb mb : Nat} {a a' : Option Addr} {cap cap' : Nat} {xs : List ByteArray} {s : ByteArray} {D : DataW Unit} (h2 : Tab U base tb hb mb a cap xs) (tu : Below W.heap.size W U)
    (hrow : Row w2 base a' cap' (xs ++ [s])) (hgrow : U.grownBy w2 (a.map Addr.block)) (hat : (a' = a ∧ a ≠ none) ∨ (a'.map Addr.block = some U.heap.size ∧ U.grownBy w2 none))
    (hmap : w4.ownsMap Tryd.prog 9 (plainElem Tryd.prog 3) mb (xs.length + 1) D) (hg4 : (w2.setCell ⟨hb, 0, none⟩ (.slice a' (xs.length + 1) cap')).grownBy w4 (some mb)) (hT : Ties D (xs ++ [s])) (hl : xs.length < 16384) :
    Left W w4 base tb hb mb a xs (xs ++ [s]) a' cap' := by
  have t1 : Turn (mine hb mb a) U w2 := Turn.of_grownBy hgrow (fun k e => .inr (.inr e))
  have t2 : Turn (mine hb mb a) w2 (w2.setCell ⟨hb, 0, none⟩ (.slice a' (xs.length + 1) cap')) := Turn.setCell _ _ _ (.inl rfl)
  have t3 : Turn (mine hb mb a) (w2.setCell ⟨hb, 0, none⟩ (.slice a' (xs.length + 1) cap')) w4 := Turn.of_grownBy hg4 (fun k e => .inr (.inl (by cases e; rfl)))
  have t4 : Turn (mine hb mb a) U w4 := (t1.trans t2 (fun _ _ e => e)).trans t3 (fun _ _ e => e)
  have hbU := lt_of_heap h2.held
  obtain ⟨es, clock, hmU⟩ := h2.mb_obj
  have hmbU := lt_of_heap hmU
  have hheld2 : w2.heap[hb]? = some (.cells #[.slice a xs.length cap, .map (some mb)] 66 (0, 0)) := (hgrow.block hb hbU (fun e => (h2.row_ne hb e.symm).2.1 rfl)).trans h2.held
  have hheld3 : (w2.setCell ⟨hb, 0, none⟩ (.slice a' (xs.length + 1) cap')).heap[hb]? = some (.cells #[.slice a' (xs.length + 1) cap', .map (some mb)] 66 (0, 0)) := by
    simp [World.setCell, Array.getElem?_modify, hheld2]
  have hheld4 : w4.heap[hb]? = some (.cells #[.slice a' (xs.length + 1) cap', .map (some mb)] 66 (0, 0)) :=
    (hg4.block hb (lt_of_heap hheld3) (fun e => h2.hb_mb (by cases e; rfl))).trans hheld3
  have hne : ∀ k, a'.map Addr.block = some k → k ≠ hb ∧ k ≠ mb := fun k e => by
    rcases hat with ⟨rfl, _⟩ | ⟨e2, _⟩
    · exact (h2.row_ne k e).2
    · rw [e2] at e
      have : U.heap.size = k := by simpa using e
      omega
  have hrow3 : Row (w2.setCell ⟨hb, 0, none⟩ (.slice a' (xs.length + 1) cap')) base a' cap' (xs ++ [s]) :=
    hrow.stays (S := fun k => k = hb) (Turn.setCell _ _ _ rfl) (fun k e => (hne k e).1)
  have hrow4 : Row w4 base a' cap' (xs ++ [s]) := hrow3.stays (S := fun k => k = mb) (Turn.of_grownBy hg4 (fun k e => by cases e; rfl)) (fun k e => (hne k e).2)
  have htab : Tab w4 base tb hb mb a' cap' (xs ++ [s]) :=
    ⟨(t4.block tb (lt_of_heap h2.tab) h2.tb_not).trans h2.tab, by simpa using hheld4, hrow4, by simp; omega, ⟨D, by simpa using hmap, hT⟩, h2.from_.1, h2.from_.2.1, Nat.le_trans h2.from_.2.2 t4.size⟩
  refine ⟨htab, (Turn.of_below tu).trans t4 (fun _ _ e => e), ?_, ?_⟩
  · rcases hat with ⟨e, _⟩ | ⟨e, _⟩
    · exact .inl e
    · exact .inr ⟨_, e, tu.size⟩
  · intro u ys hr hp j x hj
    obtain ⟨g, eu, hc⟩ := hr.later tu j x hj
    refine ⟨g, eu, ?_⟩
    have hgU : g < U.heap.size := World.block_lt_of_cell? U ⟨g, j, none⟩ hc
    by_cases m1 : g = hb
    · subst m1
      exfalso
      rw [World.cell?, h2.held] at hc
      match j, hc with
      | 0, hc => simp at hc
      | 1, hc => simp at hc
      | j + 2, hc => simp at hc
    by_cases m2 : g = mb
    · subst m2
      exfalso
      rw [World.cell?, hmU] at hc
      simp at hc
    by_cases m3 : a.map Addr.block = some g
    · have ea : u = a := by
        obtain ⟨cur, _⟩ := h2.row.obj g m3
        rcases h2.row.2 with ⟨e1, _⟩ | ⟨g2, c2, cur2, e1, _⟩
        · injection e1 with e2 _ _; subst e2; simp at m3
        · injection e1 with e2 _ _
          subst e2
          have : g2 = g := by simpa using m3
          subst this
          exact eu
      rcases hat with ⟨e, _⟩ | ⟨e, hg0⟩
      · subst e
        obtain ⟨zs, hz⟩ := hp ea
        obtain ⟨g3, e3, hc3⟩ := hrow4.reads j x (by rw [← hz, List.append_assoc]; rw [List.getElem?_append_left (by have := List.getElem?_eq_some_iff.1 hj; exact this.1)]; exact hj)
        rw [← ea, eu] at e3
        have : g = g3 := by simpa using e3
        subst this
        exact hc3
      · have e1 := hg0.block g hgU (by simp)
        have e2 : (w2.setCell ⟨hb, 0, none⟩ (.slice a' (xs.length + 1) cap')).heap[g]? = w2.heap[g]? := Below.heap_setCell _ _ _ _ m1
        have e3 := hg4.block g (by have := hg0.size; simp [World.setCell]; omega) (fun e => m2 (by cases e; rfl))
        exact (World.cell?_of_block (a := ⟨g, j, none⟩) ((e3.trans e2).trans e1)).trans hc
    · have e1 := t4.block g hgU (fun e => e.elim m1 (fun e => e.elim m2 m3))
      exact (World.cell?_of_block (a := ⟨g, j, none⟩) e1).trans hc
end Go.Proofs.YtbfkcfhkccicoaaDoor.Sym
