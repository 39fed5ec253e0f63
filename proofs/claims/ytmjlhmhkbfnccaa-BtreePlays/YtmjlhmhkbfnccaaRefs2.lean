/- The document's New and Insert. -/
import Derived.Test.YtmjlhmhkbfnccaaRefs
import Derived.Maps.AppendAt
namespace Go.Proofs.Ytmjlhmhkbfnccaa
open Go.RowKit Go.Shelf Go.Maps

/-- An append whose run is known. -/
theorem wpList_append_run {P : Program} (w : World) {ops : Array Oper} {rest : List Oper} {o : Oper} {a : Act} {Q : Exit → Act → World → Prop}
    (hg : o.guard = none) (s x : Operand) (t : TypeId) (hop : o.op = Op.call { callee := Callee.builtin Builtin.append, args := #[s, x], argTypes := #[t, t] })
    (v u : Value) (hs : a.eval s = v) (hx : a.eval x = u) (v' : Value) (w' : World) (hrun : (Builtin.append_ #[t, t] o.type #[v, u]).run P w = .ok v' w')
    (hK : wpList P ops Q rest (a.put o.dst v') w') : wpList P ops Q (o :: rest) a w := by
  refine wpList_plain hg fun K hK' => ?_
  unfold Oper.wp
  simp [execOp, hop, resolve, invoke, builtin, hs, hx, hrun, Result.andThen]
  exact hK' _ _ hK
theorem app_nilI (w : World) (c : Nat) : (Builtin.append_ #[22, 22] 22 #[.slice none 0 0, .slice none 0 c]).run Try.prog w = .ok (.slice none 0 0) w := by kernel_rfl
theorem app_nilT (w : World) : (Builtin.append_ #[32, 32] 32 #[.slice none 0 0, .slice none 0 0]).run Try.prog w = .ok (.slice none 0 0) w := by kernel_rfl
theorem app_oneT (w : World) (g cap : Nat) (h : 1 ≤ cap) : (Builtin.append_ #[32, 32] 32 #[.slice (some ⟨g, 0, none⟩) 1 cap, .slice none 0 0]).run Try.prog w = .ok (.slice (some ⟨g, 0, none⟩) 1 cap) w := by
  obtain ⟨i, h1, h2, h3, h4⟩ := infoT
  have ht : Try.prog.underlying 32 = some (.slice 22) := by kernel_rfl
  simp [Builtin.append_, run_underlying ht, sizeOf, typeInfo, h1, Builtin.lenOf, h, Builtin.firstCells, storeCells]

/-- 'append([]int(nil), t...)'. -/
theorem appI_run (w : World) (xv : Value) (x : List Int) (hx : Ints w.heap.size w xv x) (hn : x.length * 8 ≤ 140737488355328) : ∃ r w', (Builtin.append_ #[22, 22] 22 #[.slice none 0 0, xv]).run Try.prog w = .ok r w' ∧ OwnI w.heap.size w' r x ∧ Below w.heap.size w w' := by
  obtain ⟨a, cap, rfl, hc1, hc2, hcell⟩ := hx
  obtain ⟨i, h1, h2, h3, h4⟩ := infoI
  have ht : Try.prog.underlying 22 = some (.slice 3) := by kernel_rfl
  cases a with
  | none =>
    have hx0 : x = [] := by
      cases x with
      | nil => rfl
      | cons y r =>
        obtain ⟨b, off, e, _⟩ := hcell 0 y rfl
        cases e
    subst hx0
    exact ⟨_, w, app_nilI w cap, World.ownsRow_nil _ _ _ _, Below.refl _ _⟩
  | some ad =>
    obtain ⟨v', w', hr, ho, hg, _⟩ := run_append_own (P := Try.prog) w w.heap.size 22 22 3 i (.int .i64 0) 1 8 ht h1 h2 h3 h4 rfl (by decide) (.slice none 0 0) 0 [] (World.ownsRow_nil _ _ _ _) ad x.length cap (x.map (Value.int .i64)) (by simp) (fun j u hj => by
      rw [List.getElem?_map, Option.map_eq_some_iff] at hj
      obtain ⟨y, hy, rfl⟩ := hj
      obtain ⟨b, off, e, _, hc⟩ := hcell j y hy
      cases e
      rw [Addr.add_lit]
      exact hc) (fun u hu => by obtain ⟨y, _, rfl⟩ := List.mem_map.1 hu; rfl) (by unfold maxLen; omega) (by omega) (Nat.le_refl _)
    refine ⟨v', w', hr, ?_, (Below.refl _ w).grown hg (Nat.le_refl _) (fun k e => by cases e)⟩
    unfold OwnI
    simpa using ho

set_option maxRecDepth 100000 in
set_option maxHeartbeats 4000000 in
theorem rnew_any (w : World) (ov : Value) (o : List Int) (ho : Ints w.heap.size w ov o) (hr : right o = true) :
    Calls Try.prog 25 #[ov] w fun e w' => ∃ ra rc, e = .returned (.tuple #[.agg #[.slice ra o.length rc, .slice none 0 0], .int .i64 0]) ∧ IntsS (fun b => w.heap.size ≤ b) w' (.slice ra o.length rc) o ∧ Below w.heap.size w w' := by
  obtain ⟨w1, hw1⟩ : ∃ w1, w1 = w.alloc (.cells #[.slice none 0 0, .slice none 0 0] 56) := ⟨_, rfl⟩
  have b1 : Below w.heap.size w w1 := by rw [hw1]; exact (Below.refl _ w).alloc (Nat.le_refl _) _
  have hsz : w1.heap.size = w.heap.size + 1 := by rw [hw1]; simp
  have hnw : w1.heap[w.heap.size]? = some (.cells #[.slice none 0 0, .slice none 0 0] 56 (0, 0)) := by rw [hw1]; exact World.alloc_heap_new _ _
  have ho1 := (ho.below b1 (Nat.le_refl _)).mono b1.size
  have hc := rright_any w1.heap.size w1 ov o ho1
  rw [hr] at hc
  obtain ⟨r, w2, hrun, hown, b2⟩ := appI_run w1 ov o ho1 (by have := (right_in hr).1; omega)
  obtain ⟨oa, oc, rfl, _⟩ := id ho
  obtain ⟨ra, rc, rfl, _⟩ := id hown.intsS
  obtain ⟨c0, c1, q0, q1⟩ := two_cells ((b2.block w.heap.size (by omega)).trans hnw)
  have HH := hide (And.intro hown (And.intro b1 (And.intro b2 (And.intro hsz ((b2.block w.heap.size (by omega)).trans hnw)))))
  have HRUN := hide hrun
  clear ho ho1 hown b1 b2 hsz hnw hr hrun
  go_enter Try.func25, Try.ntmps25
  go_wp2_with fail
  rw [← hw1]
  refine hc.mono ?_
  clear hc
  rintro e w' ⟨rfl, hw'⟩
  subst hw'
  clear hw1
  go_wp2_with (at_builtin; refine wpList_append_run _ rfl _ _ 22 rfl _ _ rfl rfl _ _ (unhide HRUN) ?_)
  obtain ⟨hown, b1, b2, hsz, hh2⟩ := unhide HH
  have hW := set_heap (set_heap hh2 0 (.slice ra o.length rc)) 1 (.slice none 0 0)
  obtain ⟨d0, d1, _⟩ := two_cells (x := .slice ra o.length rc) (y := .slice none 0 0) (t := 56) hW
  refine bodyPost_ret (v := .tuple #[.agg #[.slice ra o.length rc, .slice none 0 0], .int .i64 0]) (by simp [results, Try.f25, go_sem, d0, d1]) rfl ?_
  have hK : Keeps (fun b => b = w.heap.size) w2 ((w2.setCell ⟨w.heap.size, 0, none⟩ (.slice ra o.length rc)).setCell ⟨w.heap.size, 1, none⟩ (.slice none 0 0)) := ((Keeps.refl (fun b => b = w.heap.size) w2).setCell ⟨w.heap.size, 0, none⟩ rfl _).setCell ⟨w.heap.size, 1, none⟩ rfl _
  refine ⟨ra, rc, rfl, ?_, (b1.trans (b2.mono b1.size)).trans (hK.below (Nat.le_trans b1.size b2.size) (fun b hb => by omega))⟩
  exact (hown.intsS.stays (hK.stays (fun b _ hb e => by omega))).mono (fun b _ hb => by omega)

/-- A tuple in its place, by numbers. -/
theorem insX_eq (o x : List Int) (xs : List (List Int)) : insX o x xs = xs.take (atN o x xs) ++ x :: xs.drop (atN o x xs) := by
  unfold insX atN
  have h := List.takeWhile_append_dropWhile (p := fun y => decide (cmpA o y x < 0)) (l := xs)
  generalize xs.takeWhile (fun y => decide (cmpA o y x < 0)) = A at h ⊢
  generalize xs.dropWhile (fun y => decide (cmpA o y x < 0)) = B at h ⊢
  rw [← h]
  simp
theorem insX_at (o x : List Int) (xs : List (List Int)) (j : Nat) : (insX o x xs).getD j [] = if j < atN o x xs then xs.getD j [] else if j = atN o x xs then x else xs.getD (j - 1) [] := by
  have hle := atN_le o x xs
  rw [insX_eq]
  have hl : (xs.take (atN o x xs)).length = atN o x xs := by simp; omega
  split
  · rename_i h
    rw [List.getD, List.getElem?_append_left (by omega)]
    simp [List.getD, h]
  · rename_i h
    rw [List.getD, List.getElem?_append_right (by omega), hl]
    split
    · rename_i h2
      simp [h2]
    · rename_i h2
      rw [show j - atN o x xs = (j - atN o x xs - 1) + 1 by omega, List.getElem?_cons_succ, List.getElem?_drop, show atN o x xs + (j - atN o x xs - 1) = j - 1 by omega]
      rfl
def valsR (f : Nat → Value) (n m : Nat) (r : Value) : List Value := (List.range n).map f ++ [r] ++ (List.range m).map (fun j => f (n + j))
theorem valsR_at (f : Nat → Value) (n m : Nat) (r : Value) (j : Nat) (hj : j < n + 1 + m) : (valsR f n m r).getD j undef = if j < n then f j else if j = n then r else f (j - 1) := by
  unfold valsR
  split
  · rename_i h
    rw [List.append_assoc, List.getD, List.getElem?_append_left (by simpa using h)]
    simp [h]
  · rename_i h
    rw [List.append_assoc, List.getD, List.getElem?_append_right (by simpa using h)]
    simp only [List.length_map, List.length_range]
    split
    · rename_i h2
      simp [h2]
    · rename_i h2
      rw [List.getElem?_append_right (by simp; omega)]
      simp only [List.length_cons, List.length_nil, List.getElem?_map]
      rw [List.getElem?_range (by omega)]
      simp only [Option.map_some, Option.getD_some]
      congr 1
      omega
/-- The new tuples are stored. -/
theorem rins_done {S : Nat → Prop} {w w4 w9 : World} {rb : Nat} {o x : List Int} {xs : List (List Int)} {f : Nat → Value} {r v3 : Value} (h : RSetAt S w rb o xs) (hf : ∀ j, j < xs.length → IntsS S w (f j) (xs.getD j [])) (b04 : Below w.heap.size w w4) (b49 : Below w4.heap.size w4 w9) (hnew : NewIn S w)
    (hr : IntsS (fun b => w4.heap.size ≤ b) w9 r x) (hown : w9.ownsRow w4.heap.size 22 1 v3 (xs.length + 1) (valsR f (atN o x xs) (xs.length - atN o x xs) r)) :
    RSetAt S (w9.setCell ⟨rb, 1, none⟩ v3) rb o (insX o x xs) ∧ Keeps (fun b => b = rb) w (w9.setCell ⟨rb, 1, none⟩ v3) := by
  obtain ⟨ov, tv, hh, hov, _, _⟩ := h.cells
  have hle := atN_le o x xs
  have hs04 := b04.size
  have b09 : Below w.heap.size w w9 := b04.trans (b49.mono hs04)
  have hK : Keeps (fun b => b = rb) w9 (w9.setCell ⟨rb, 1, none⟩ v3) := (Keeps.refl (fun b => b = rb) w9).setCell ⟨rb, 1, none⟩ rfl _
  have hst : Stays S w9 (w9.setCell ⟨rb, 1, none⟩ v3) := hK.stays (fun b _ hs e => h.ns (e ▸ hs))
  have hW := set_heap ((b09.block _ (lt_heap hh)).trans hh) 1 v3
  refine ⟨⟨⟨ov, v3, hW, (hov.later b09).stays hst, ⟨fun j => (valsR f (atN o x xs) (xs.length - atN o x xs) r).getD j undef, ?_, fun j hj => ?_⟩, fun e => ?_⟩, h.ns⟩, (Keeps.of_below b09).trans hK (fun _ _ e => e)⟩
  · rw [insX_length]
    have hl : (valsR f (atN o x xs) (xs.length - atN o x xs) r).length = xs.length + 1 := by have := hown.1; omega
    refine (Row.mono (Row.of_own (e := 22) (base := w4.heap.size) ?_) (fun b _ hb => hnew b (by omega))).stays hst
    rw [← hl, range_getD, hl]
    exact hown
  · rw [insX_length] at hj
    show IntsS S _ ((valsR f (atN o x xs) (xs.length - atN o x xs) r).getD j undef) _
    rw [valsR_at _ _ _ _ _ (by omega), insX_at]
    by_cases h1 : j < atN o x xs
    · rw [if_pos h1, if_pos h1]
      exact ((hf j (by omega)).later b09).stays hst
    · rw [if_neg h1, if_neg h1]
      by_cases h2 : j = atN o x xs
      · rw [if_pos h2, if_pos h2]
        exact (hr.mono (fun b _ hb => hnew b (by omega))).stays hst
      · rw [if_neg h2, if_neg h2]
        exact ((hf (j - 1) (by omega)).later b09).stays hst
  · have := congrArg List.length e
    rw [insX_length] at this
    simp at this
end Go.Proofs.Ytmjlhmhkbfnccaa
