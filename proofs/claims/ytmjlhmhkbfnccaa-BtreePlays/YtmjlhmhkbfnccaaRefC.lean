/- The document's New and Insert. The document's Insert. -/
import Derived.Test.YtmjlhmhkbfnccaaRefs
import Derived.Maps.AppendAt
namespace Go.Proofs.Ytmjlhmhkbfnccaa
open Go.RowKit Go.Shelf Go.Maps

/-- An append whose run is known. -/
theorem wpList_append_run {P : Program} (w : World) {ops : Array Oper} {rest : List Oper} {o : Oper} {a : Act} {Q : Exit → Act → World → Prop}
    (hg : o.guard = none) (s x : Operand) (t : TypeId) (hop : o.op = Op.call { callee := Callee.builtin Builtin.append, args := #[s, x], argTypes := #[t, t] })
    (v u : Value) (hs : a.eval s = v) (hx : a.eval x = u) (v' : Value) (w' : World) (hrun : (Builtin.append_ #[t, t] o.type #[v, u]).run P w = .ok v' w')
    (hK : wpList P ops Q rest (a.put o.dst v') w') : wpList P ops Q (o :: rest) a w := by
  refine wpList_plain hg fun K hK' => ?_
  unfold Oper.wp
  simp [execOp, hop, resolve, invoke, builtin, hs, hx, hrun, Result.andThen]
  exact hK' _ _ hK
theorem app_nilI (w : World) (c : Nat) : (Builtin.append_ #[22, 22] 22 #[.slice none 0 0, .slice none 0 c]).run Try.prog w = .ok (.slice none 0 0) w := by kernel_rfl
theorem app_nilT (w : World) : (Builtin.append_ #[32, 32] 32 #[.slice none 0 0, .slice none 0 0]).run Try.prog w = .ok (.slice none 0 0) w := by kernel_rfl
theorem app_oneT (w : World) (g cap : Nat) (h : 1 ≤ cap) : (Builtin.append_ #[32, 32] 32 #[.slice (some ⟨g, 0, none⟩) 1 cap, .slice none 0 0]).run Try.prog w = .ok (.slice (some ⟨g, 0, none⟩) 1 cap) w := by
  obtain ⟨i, h1, h2, h3, h4⟩ := infoT
  have ht : Try.prog.underlying 32 = some (.slice 22) := by kernel_rfl
  simp [Builtin.append_, run_underlying ht, sizeOf, typeInfo, h1, Builtin.lenOf, h, Builtin.firstCells, storeCells]

/-- 'append([]int(nil), t...)'. -/
theorem appI_run (w : World) (xv : Value) (x : List Int) (hx : Ints w.heap.size w xv x) (hn : x.length * 8 ≤ 140737488355328) : ∃ r w', (Builtin.append_ #[22, 22] 22 #[.slice none 0 0, xv]).run Try.prog w = .ok r w' ∧ OwnI w.heap.size w' r x ∧ Below w.heap.size w w' := by
  obtain ⟨a, cap, rfl, hc1, hc2, hcell⟩ := hx
  obtain ⟨i, h1, h2, h3, h4⟩ := infoI
  have ht : Try.prog.underlying 22 = some (.slice 3) := by kernel_rfl
  cases a with
  | none =>
    have hx0 : x = [] := by
      cases x with
      | nil => rfl
      | cons y r =>
        obtain ⟨b, off, e, _⟩ := hcell 0 y rfl
        cases e
    subst hx0
    exact ⟨_, w, app_nilI w cap, World.ownsRow_nil _ _ _ _, Below.refl _ _⟩
  | some ad =>
    obtain ⟨v', w', hr, ho, hg, _⟩ := run_append_own (P := Try.prog) w w.heap.size 22 22 3 i (.int .i64 0) 1 8 ht h1 h2 h3 h4 rfl (by decide) (.slice none 0 0) 0 [] (World.ownsRow_nil _ _ _ _) ad x.length cap (x.map (Value.int .i64)) (by simp) (fun j u hj => by
      rw [List.getElem?_map, Option.map_eq_some_iff] at hj
      obtain ⟨y, hy, rfl⟩ := hj
      obtain ⟨b, off, e, _, hc⟩ := hcell j y hy
      cases e
      rw [Addr.add_lit]
      exact hc) (fun u hu => by obtain ⟨y, _, rfl⟩ := List.mem_map.1 hu; rfl) (by unfold maxLen; omega) (by omega) (Nat.le_refl _)
    refine ⟨v', w', hr, ?_, (Below.refl _ w).grown hg (Nat.le_refl _) (fun k e => by cases e)⟩
    unfold OwnI
    simpa using ho

set_option maxRecDepth 100000 in
set_option maxHeartbeats 4000000 in
theorem rnew_any (w : World) (ov : Value) (o : List Int) (ho : Ints w.heap.size w ov o) (hr : right o = true) :
    Calls Try.prog 25 #[ov] w fun e w' => ∃ ra rc, e = .returned (.tuple #[.agg #[.slice ra o.length rc, .slice none 0 0], .int .i64 0]) ∧ IntsS (fun b => w.heap.size ≤ b) w' (.slice ra o.length rc) o ∧ Below w.heap.size w w' := by
  obtain ⟨w1, hw1⟩ : ∃ w1, w1 = w.alloc (.cells #[.slice none 0 0, .slice none 0 0] 56) := ⟨_, rfl⟩
  have b1 : Below w.heap.size w w1 := by rw [hw1]; exact (Below.refl _ w).alloc (Nat.le_refl _) _
  have hsz : w1.heap.size = w.heap.size + 1 := by rw [hw1]; simp
  have hnw : w1.heap[w.heap.size]? = some (.cells #[.slice none 0 0, .slice none 0 0] 56 (0, 0)) := by rw [hw1]; exact World.alloc_heap_new _ _
  have ho1 := (ho.below b1 (Nat.le_refl _)).mono b1.size
  have hc := rright_any w1.heap.size w1 ov o ho1
  rw [hr] at hc
  obtain ⟨r, w2, hrun, hown, b2⟩ := appI_run w1 ov o ho1 (by have := (right_in hr).1; omega)
  obtain ⟨oa, oc, rfl, _⟩ := id ho
  obtain ⟨ra, rc, rfl, _⟩ := id hown.intsS
  obtain ⟨c0, c1, q0, q1⟩ := two_cells ((b2.block w.heap.size (by omega)).trans hnw)
  have HH := hide (And.intro hown (And.intro b1 (And.intro b2 (And.intro hsz ((b2.block w.heap.size (by omega)).trans hnw)))))
  have HRUN := hide hrun
  clear ho ho1 hown b1 b2 hsz hnw hr hrun
  go_enter Try.func25, Try.ntmps25
  go_wp2_with fail
  rw [← hw1]
  refine hc.mono ?_
  clear hc
  rintro e w' ⟨rfl, hw'⟩
  subst hw'
  clear hw1
  go_wp2_with (at_builtin; refine wpList_append_run _ rfl _ _ 22 rfl _ _ rfl rfl _ _ (unhide HRUN) ?_)
  obtain ⟨hown, b1, b2, hsz, hh2⟩ := unhide HH
  have hW := set_heap (set_heap hh2 0 (.slice ra o.length rc)) 1 (.slice none 0 0)
  obtain ⟨d0, d1, _⟩ := two_cells (x := .slice ra o.length rc) (y := .slice none 0 0) (t := 56) hW
  refine bodyPost_ret (v := .tuple #[.agg #[.slice ra o.length rc, .slice none 0 0], .int .i64 0]) (by simp [results, Try.f25, go_sem, d0, d1]) rfl ?_
  have hK : Keeps (fun b => b = w.heap.size) w2 ((w2.setCell ⟨w.heap.size, 0, none⟩ (.slice ra o.length rc)).setCell ⟨w.heap.size, 1, none⟩ (.slice none 0 0)) := ((Keeps.refl (fun b => b = w.heap.size) w2).setCell ⟨w.heap.size, 0, none⟩ rfl _).setCell ⟨w.heap.size, 1, none⟩ rfl _
  refine ⟨ra, rc, rfl, ?_, (b1.trans (b2.mono b1.size)).trans (hK.below (Nat.le_trans b1.size b2.size) (fun b hb => by omega))⟩
  exact (hown.intsS.stays (hK.stays (fun b _ hb e => by omega))).mono (fun b _ hb => by omega)

/-- A tuple in its place, by numbers. -/
theorem insX_eq (o x : List Int) (xs : List (List Int)) : insX o x xs = xs.take (atN o x xs) ++ x :: xs.drop (atN o x xs) := by
  unfold insX atN
  have h := List.takeWhile_append_dropWhile (p := fun y => decide (cmpA o y x < 0)) (l := xs)
  generalize xs.takeWhile (fun y => decide (cmpA o y x < 0)) = A at h ⊢
  generalize xs.dropWhile (fun y => decide (cmpA o y x < 0)) = B at h ⊢
  rw [← h]
  simp
theorem insX_at (o x : List Int) (xs : List (List Int)) (j : Nat) : (insX o x xs).getD j [] = if j < atN o x xs then xs.getD j [] else if j = atN o x xs then x else xs.getD (j - 1) [] := by
  have hle := atN_le o x xs
  rw [insX_eq]
  have hl : (xs.take (atN o x xs)).length = atN o x xs := by simp; omega
  split
  · rename_i h
    rw [List.getD, List.getElem?_append_left (by omega)]
    simp [List.getD, h]
  · rename_i h
    rw [List.getD, List.getElem?_append_right (by omega), hl]
    split
    · rename_i h2
      simp [h2]
    · rename_i h2
      rw [show j - atN o x xs = (j - atN o x xs - 1) + 1 by omega, List.getElem?_cons_succ, List.getElem?_drop, show atN o x xs + (j - atN o x xs - 1) = j - 1 by omega]
      rfl
def valsR (f : Nat → Value) (n m : Nat) (r : Value) : List Value := (List.range n).map f ++ [r] ++ (List.range m).map (fun j => f (n + j))
theorem valsR_at (f : Nat → Value) (n m : Nat) (r : Value) (j : Nat) (hj : j < n + 1 + m) : (valsR f n m r).getD j undef = if j < n then f j else if j = n then r else f (j - 1) := by
  unfold valsR
  split
  · rename_i h
    rw [List.append_assoc, List.getD, List.getElem?_append_left (by simpa using h)]
    simp [h]
  · rename_i h
    rw [List.append_assoc, List.getD, List.getElem?_append_right (by simpa using h)]
    simp only [List.length_map, List.length_range]
    split
    · rename_i h2
      simp [h2]
    · rename_i h2
      rw [List.getElem?_append_right (by simp; omega)]
      simp only [List.length_cons, List.length_nil, List.getElem?_map]
      rw [List.getElem?_range (by omega)]
      simp only [Option.map_some, Option.getD_some]
      congr 1
      omega
/-- The new tuples are stored. -/
theorem rins_done {S : Nat → Prop} {w w4 w9 : World} {rb : Nat} {o x : List Int} {xs : List (List Int)} {f : Nat → Value} {r v3 : Value} (h : RSetAt S w rb o xs) (hf : ∀ j, j < xs.length → IntsS S w (f j) (xs.getD j [])) (b04 : Below w.heap.size w w4) (b49 : Below w4.heap.size w4 w9) (hnew : NewIn S w)
    (hr : IntsS (fun b => w4.heap.size ≤ b) w9 r x) (hown : w9.ownsRow w4.heap.size 22 1 v3 (xs.length + 1) (valsR f (atN o x xs) (xs.length - atN o x xs) r)) :
    RSetAt S (w9.setCell ⟨rb, 1, none⟩ v3) rb o (insX o x xs) ∧ Keeps (fun b => b = rb) w (w9.setCell ⟨rb, 1, none⟩ v3) := by
  obtain ⟨ov, tv, hh, hov, _, _⟩ := h.cells
  have hle := atN_le o x xs
  have hs04 := b04.size
  have b09 : Below w.heap.size w w9 := b04.trans (b49.mono hs04)
  have hK : Keeps (fun b => b = rb) w9 (w9.setCell ⟨rb, 1, none⟩ v3) := (Keeps.refl (fun b => b = rb) w9).setCell ⟨rb, 1, none⟩ rfl _
  have hst : Stays S w9 (w9.setCell ⟨rb, 1, none⟩ v3) := hK.stays (fun b _ hs e => h.ns (e ▸ hs))
  have hW := set_heap ((b09.block _ (lt_heap hh)).trans hh) 1 v3
  refine ⟨⟨⟨ov, v3, hW, (hov.later b09).stays hst, ⟨fun j => (valsR f (atN o x xs) (xs.length - atN o x xs) r).getD j undef, ?_, fun j hj => ?_⟩, fun e => ?_⟩, h.ns⟩, (Keeps.of_below b09).trans hK (fun _ _ e => e)⟩
  · rw [insX_length]
    have hl : (valsR f (atN o x xs) (xs.length - atN o x xs) r).length = xs.length + 1 := by have := hown.1; omega
    refine (Row.mono (Row.of_own (e := 22) (base := w4.heap.size) ?_) (fun b _ hb => hnew b (by omega))).stays hst
    rw [← hl, range_getD, hl]
    exact hown
  · rw [insX_length] at hj
    show IntsS S _ ((valsR f (atN o x xs) (xs.length - atN o x xs) r).getD j undef) _
    rw [valsR_at _ _ _ _ _ (by omega), insX_at]
    by_cases h1 : j < atN o x xs
    · rw [if_pos h1, if_pos h1]
      exact ((hf j (by omega)).later b09).stays hst
    · rw [if_neg h1, if_neg h1]
      by_cases h2 : j = atN o x xs
      · rw [if_pos h2, if_pos h2]
        exact (hr.mono (fun b _ hb => hnew b (by omega))).stays hst
      · rw [if_neg h2, if_neg h2]
        exact ((hf (j - 1) (by omega)).later b09).stays hst
  · have := congrArg List.length e
    rw [insX_length] at this
    simp at this
end Go.Proofs.Ytmjlhmhkbfnccaa

namespace Go.Proofs.Ytmjlhmhkbfnccaa
open Go.RowKit Go.Shelf Go.Maps

theorem own_keep {base : Nat} {A B : World} {v : Value} {n : Nat} {vs : List Value} (h : A.ownsRow base 22 1 v n vs) (hg : A.grownBy B v.ownBlock) : Keeps (fun b => base ≤ b) A B := by
  refine keeps_grown hg (fun b hb => ?_)
  rcases h.2 with ⟨rfl, _⟩ | ⟨g, cap, cur, rfl, hgb, _⟩
  · simp [Value.ownBlock] at hb
  · simp only [Value.ownBlock, Option.some.injEq] at hb
    omega
theorem own_later {base : Nat} {A B : World} {e : TypeId} {size : Nat} {v : Value} {n : Nat} {vs : List Value} (h : A.ownsRow base e size v n vs) (hb : Below A.heap.size A B) : B.ownsRow base e size v n vs := by
  refine ⟨h.1, ?_⟩
  rcases h.2 with h | ⟨g, cap, cur, h1, h2, h3, h4⟩
  · exact .inl h
  · exact .inr ⟨g, cap, cur, h1, h2, (hb.block _ (lt_heap h3)).trans h3, h4⟩
theorem own_inside {base : Nat} {A : World} {e : TypeId} {size : Nat} {v : Value} {n : Nat} {vs : List Value} (h : A.ownsRow base e size v n vs) : ∀ b, some b = v.ownBlock → b < A.heap.size := fun b hb => by
  rcases h.2 with ⟨rfl, _⟩ | ⟨g, cap, cur, rfl, _, h3, _⟩
  · simp [Value.ownBlock] at hb
  · simp only [Value.ownBlock, Option.some.injEq] at hb
    rw [hb]
    exact lt_heap h3

set_option maxRecDepth 100000 in
set_option maxHeartbeats 4000000 in
theorem rinsert_any (S : Nat → Prop) (w : World) (rb : Nat) (o x : List Int) (xs : List (List Int)) (xv : Value) (h : RSetAt S w rb o xs) (ho : right o = true) (hU : Up o xs) (hx : Ints w.heap.size w xv x) (hnew : NewIn S w) :
    Calls Try.prog 26 #[.pointer (some ⟨rb, 0, none⟩), xv] w fun e w' => e = .returned (.tuple #[.bool (insBL o x xs), .int .i64 (insEL o x xs)]) ∧ RSetAt S w' rb o (insTo o x xs) ∧ Keeps (fun b => b = rb) w w' := by
  have hhas := rhas_any S w rb o x xs xv h ho hU hx
  obtain ⟨ov, tv, hh, hov, hL, hnil⟩ := h.cells
  obtain ⟨oa, oc, rfl, _⟩ := id hov
  obtain ⟨xa, xc, rfl, _⟩ := id hx
  obtain ⟨f, ⟨a, cap, etv, hc1, hc2, hf⟩, hfi⟩ := id hL
  subst etv
  obtain ⟨c0, c1, _⟩ := two_cells hh
  have HH := hide h
  have HX := hide hx
  have HU := hide (And.intro ho hU)
  have HNEW := hide hnew
  have HF := hide (And.intro hf hfi)
  have HHH := hide hh
  have h1024 := hU.2.2.1
  have hlt0 := lt_heap hh
  clear h hx ho hU hnew hf hfi hov hL hh
  cases hfit : fitB o x with
  | false =>
    have hne : ((x.length : Int) != (o.length : Int)) = true := by show (!((x.length : Int) == (o.length : Int))) = true; rw [show ((x.length : Int) == (o.length : Int)) = false from hfit]; rfl
    have HFIT := hide hfit
    clear hfit hhas
    go_enter Try.func26, Try.ntmps26
    go_wp2_with fail
    go_ret2
    have e1 : insBL o x xs = false := by simp [insBL, unhide HFIT]
    exact ⟨tupBE e1.symm (by simp [insEL, unhide HFIT]), by rw [insTo, if_neg (by simp [e1])]; exact unhide HH, Keeps.refl (fun b => b = rb) w⟩
  | true =>
  have hne : ((x.length : Int) != (o.length : Int)) = false := by show (!((x.length : Int) == (o.length : Int))) = false; rw [show ((x.length : Int) == (o.length : Int)) = true from hfit]; rfl
  have HFIT := hide hfit
  rw [hfit, Bool.true_and] at hhas
  clear hfit
  cases hcon : xs.contains x with
  | true =>
    rw [hcon] at hhas
    have HCON := hide hcon
    clear hcon
    go_enter Try.func26, Try.ntmps26
    go_wp2_with fail
    refine hhas.mono ?_
    clear hhas
    rintro e w1 ⟨rfl, b1⟩
    have HB1 := hide b1
    clear b1
    go_wp2_with fail
    go_ret2
    have e1 : insBL o x xs = false := by rw [insBL, unhide HCON]; simp
    exact ⟨tupBE e1.symm (by rw [insEL, if_pos (unhide HFIT), if_pos (unhide HCON)]), by rw [insTo, if_neg (by simp [e1])]; exact (unhide HH).later (unhide HB1), Keeps.of_below (unhide HB1)⟩
  | false =>
  rw [hcon] at hhas
  have HCON := hide hcon
  clear hcon
  by_cases hfull : xs.length < 1024
  case neg =>
    have hg : (1024 : Int) ≤ (xs.length : Int) := by omega
    have HFULL := hide hfull
    clear hfull
    go_enter Try.func26, Try.ntmps26
    go_wp2_with fail
    refine hhas.mono ?_
    clear hhas
    rintro e w1 ⟨rfl, b1⟩
    have g1 := (b1.cell (p := ⟨rb, 1, none⟩) hlt0).trans c1
    have HB1 := hide b1
    clear b1
    go_wp2_with fail
    go_ret2
    have e1 : insBL o x xs = false := by rw [insBL, decide_eq_false (unhide HFULL)]; simp
    exact ⟨tupBE e1.symm (by rw [insEL, if_pos (unhide HFIT), if_neg (by rw [unhide HCON]; simp), if_neg (unhide HFULL)]), by rw [insTo, if_neg (by simp [e1])]; exact (unhide HH).later (unhide HB1), Keeps.of_below (unhide HB1)⟩
  case pos =>
  have hg : ¬ ((1024 : Int) ≤ (xs.length : Int)) := by omega
  have e1 : insBL o x xs = true := by rw [insBL, unhide HFIT, unhide HCON, decide_eq_true hfull]; rfl
  have e2 : insEL o x xs = 0 := by rw [insEL, if_pos (unhide HFIT), if_neg (by rw [unhide HCON]; simp), if_pos hfull]
  have e3 : insTo o x xs = insX o x xs := by rw [insTo, if_pos e1]
  have HE := hide (And.intro e1 (And.intro e2 e3))
  clear e1 e2 e3
  go_enter Try.func26, Try.ntmps26
  go_wp2_with fail
  refine hhas.mono ?_
  clear hhas
  rintro e w1 ⟨rfl, b1⟩
  have g1 := (b1.cell (p := ⟨rb, 1, none⟩) hlt0).trans c1
  have hat := rat_any S w1 rb o x xs _ ((unhide HH).later b1) (((unhide HX).below b1 (Nat.le_refl _)).mono b1.size)
  have HB1 := hide b1
  clear b1
  have hnl := atN_le o x xs
  obtain ⟨n, hne'⟩ : ∃ n, n = atN o x xs := ⟨_, rfl⟩
  rw [← hne'] at hat hnl
  have HN := hide hne'
  clear hne'
  go_wp2_with fail
  refine hat.mono ?_
  clear hat
  rintro e w4 ⟨rfl, b4⟩
  have b04 := (unhide HB1).trans (b4.mono (unhide HB1).size)
  have hs04 := b04.size
  have g4 := (b04.cell (p := ⟨rb, 1, none⟩) hlt0).trans c1
  obtain ⟨q0, q1, _, qf⟩ := two_cells ((b04.block _ hlt0).trans (unhide HHH))
  have hwid : x.length * 8 ≤ 140737488355328 := by have := fitB_true.1 (unhide HFIT); have := (right_in (unhide HU).1).1; omega
  have hx4 := ((unhide HX).below b04 (Nat.le_refl _)).mono hs04
  have HB04 := hide b04
  obtain ⟨i0, hi0, hz0, hz1, hz2⟩ := infoT
  have ht : Try.prog.underlying 32 = some (.slice 22) := by kernel_rfl
  clear b4 b04 g1 c0 c1
  by_cases hxs : xs = []
  case pos =>
    subst hxs
    have etv := hnil rfl
    simp only [Value.slice.injEq] at etv
    obtain ⟨ea, _, ec⟩ := etv
    subst ea ec
    have hn0 : n = 0 := by simpa using hnl
    subst hn0
    obtain ⟨r, w6, hrun2, hown2, b6⟩ := appI_run w4 _ x hx4 hwid
    obtain ⟨ra, rc, er, _⟩ := id hown2.intsS
    subst er
    obtain ⟨v2, w8, hrun3, hown3, hgr3, _⟩ := run_append_own (P := Try.prog) (w6.alloc (.cells #[.slice ra x.length rc] 22)) w4.heap.size 32 32 22 i0 (.slice none 0 0) 1 24 ht hi0 hz0 hz1 hz2 rfl (by decide) (.slice none 0 0) 0 [] (World.ownsRow_nil _ _ _ _) ⟨w6.heap.size, 0, none⟩ 1 1 [.slice ra x.length rc] rfl (cell_one_new _ _ _) (by simp [Value.oneCell']) (by unfold maxLen; omega) (by omega) (by have := b6.size; simp; omega)
    obtain ⟨g, cap2, ev2⟩ := ownsRow_succ (k := 0) (by simpa using hown3)
    subst ev2
    have hcap2 : 1 ≤ cap2 := by
      rcases hown3.2 with ⟨e, _⟩ | ⟨_, _, _, e, _, _, hle, _⟩
      · cases e
      · simp only [Value.slice.injEq] at e
        omega
    have b68 : Below w6.heap.size w6 w8 := ((Below.refl _ w6).alloc (Nat.le_refl _) _).grown hgr3 (by simp) (fun k e => by cases e)
    have b48 := b6.trans (b68.mono b6.size)
    have q8 := two_cells ((b48.block _ (by omega)).trans (((unhide HB04).block _ hlt0).trans (unhide HHH)))
    obtain ⟨p0, p1, _, p3⟩ := q8
    have HR1 := hide (app_nilT w4)
    have HR2 := hide hrun2
    have HR3 := hide hrun3
    have HR4 := hide (app_oneT w8 g cap2 hcap2)
    have HFIN : Hid (RSetAt S (w8.setCell ⟨rb, 1, none⟩ (.slice (some ⟨g, 0, none⟩) 1 cap2)) rb o (insX o x []) ∧ Keeps (fun b => b = rb) w (w8.setCell ⟨rb, 1, none⟩ (.slice (some ⟨g, 0, none⟩) 1 cap2))) :=
      rins_done (f := f) (r := .slice ra x.length rc) (unhide HH) (fun j hj => (unhide HF).2 j hj) (unhide HB04) b48 (unhide HNEW) (hown2.intsS.later b68) (by simpa [valsR, atN] using hown3)
    clear hrun2 hrun3 hown2 hown3 hgr3 b6 b68 b48 hx4
    go_wp2_with (at_builtin; first
      | (refine wpList_append_run _ rfl _ _ 32 rfl _ _ rfl rfl _ _ (unhide HR1) ?_; clear HR1)
      | (refine wpList_append_run _ rfl _ _ 22 rfl _ _ rfl rfl _ _ (unhide HR2) ?_; clear HR2)
      | (refine wpList_append_run _ rfl _ _ 32 rfl _ _ rfl rfl _ _ (unhide HR3) ?_; clear HR3)
      | (refine wpList_append_run _ rfl _ _ 32 rfl _ _ rfl rfl _ _ (unhide HR4) ?_; clear HR4))
    go_ret2
    exact ⟨tupBE (unhide HE).1.symm (unhide HE).2.1.symm, by rw [(unhide HE).2.2]; exact (unhide HFIN).1, (unhide HFIN).2⟩
  case neg =>
  have hlen : 0 < xs.length := List.length_pos_iff.2 hxs
  obtain ⟨b, off, ea, _, _⟩ := (unhide HF).1 0 hlen
  subst ea
  have HROW : Hid (∀ j, j < xs.length → w4.cell? ⟨b, off + j, none⟩ = some (f j)) := fun j hj => by
    obtain ⟨b', off', e, _, hc⟩ := (unhide HF).1 j hj
    cases e
    obtain ⟨_, hz, _⟩ := cells_of_cell hc
    exact ((unhide HB04).cell (p := ⟨b, off + j, none⟩) (lt_heap hz)).trans hc
  have h1c : ∀ j, j < xs.length → (f j).oneCell' = true := fun j hj => by
    obtain ⟨ja, jc, e, _⟩ := (unhide HF).2 j hj
    rw [e]; rfl
  clear hxs hnil
  -- the first row
  obtain ⟨v1, w5, hrun1, hown1, hgr1, _⟩ := run_append_own (P := Try.prog) w4 w4.heap.size 32 32 22 i0 (.slice none 0 0) 1 24 ht hi0 hz0 hz1 hz2 rfl (by decide) (.slice none 0 0) 0 [] (World.ownsRow_nil _ _ _ _) ⟨b, off, none⟩ n cap ((List.range n).map f) (by simp) (fun j u hj => by
    rw [List.getElem?_map, Option.map_eq_some_iff] at hj
    obtain ⟨j', hj', rfl⟩ := hj
    obtain ⟨hjl, rfl⟩ := List.getElem?_eq_some_iff.1 hj'
    simp only [List.length_range] at hjl
    rw [Addr.add_lit, List.getElem_range]
    exact unhide HROW j (by omega)) (fun u hu => by
    obtain ⟨j, hj, rfl⟩ := List.mem_map.1 hu
    exact h1c j (by have := List.mem_range.1 hj; omega)) (by unfold maxLen; omega) (by omega) (Nat.le_refl _)
  rw [Nat.zero_add, List.nil_append] at hown1
  have b45 : Below w4.heap.size w4 w5 := (Below.refl _ w4).grown hgr1 (Nat.le_refl _) (fun k e => by cases e)
  have hs45 := b45.size
  obtain ⟨r, w6, hrun2, hown2, b6⟩ := appI_run w5 _ x ((hx4.below b45 (Nat.le_refl _)).mono hs45) hwid
  have hs56 := b6.size
  obtain ⟨ra, rc, er, _⟩ := id hown2.intsS
  subst er
  have b67 : Below w6.heap.size w6 (w6.alloc (.cells #[.slice ra x.length rc] 22)) := (Below.refl _ w6).alloc (Nat.le_refl _) _
  have hown1' : (w6.alloc (.cells #[.slice ra x.length rc] 22)).ownsRow w4.heap.size 22 1 v1 n ((List.range n).map f) := own_later (own_later hown1 b6) b67
  obtain ⟨v2, w8, hrun3, hown3, hgr3, _, hat3⟩ := run_append_own_at (P := Try.prog) (w6.alloc (.cells #[.slice ra x.length rc] 22)) w4.heap.size 32 32 22 i0 (.slice none 0 0) 1 24 ht hi0 hz0 hz1 hz2 rfl (by decide) v1 n ((List.range n).map f) hown1' ⟨w6.heap.size, 0, none⟩ 1 1 [.slice ra x.length rc] rfl (cell_one_new _ _ _) (by simp [Value.oneCell']) (by unfold maxLen; omega) (by omega) (by simp; omega)
  have hK78 := own_keep hown1' hgr3
  have hs78 := hK78.size
  have hs67 := b67.size
  have b78 : Below w4.heap.size (w6.alloc (.cells #[.slice ra x.length rc] 22)) w8 := hK78.below (by omega) (fun b hb => hb)
  have b48 : Below w4.heap.size w4 w8 := ((b45.trans (b6.mono hs45)).trans (b67.mono (by omega))).trans b78
  have hcell8 : ∀ j, j < xs.length → w8.cell? ⟨b, off + j, none⟩ = some (f j) := fun j hj => by
    have hc := unhide HROW j hj
    obtain ⟨_, hz, _⟩ := cells_of_cell hc
    exact (b48.cell (p := ⟨b, off + j, none⟩) (lt_heap hz)).trans hc
  -- the tuple's copy lies apart from the rows
  have hr8 : IntsS (fun q => w5.heap.size ≤ q ∧ q < (w6.alloc (.cells #[.slice ra x.length rc] 22)).heap.size) w8 (.slice ra x.length rc) x := by
    have h7 := (hown2.intsS.later b67).mono (S' := fun q => w5.heap.size ≤ q ∧ q < (w6.alloc (.cells #[.slice ra x.length rc] 22)).heap.size) (fun q h1 h2 => ⟨h2, h1⟩)
    refine h7.stays ((keeps_grown (O := fun q => some q = v1.ownBlock) hgr3 (fun _ h => h)).stays (fun q _ hq e => ?_))
    have := own_inside hown1 q e
    omega
  have hlt2 := own_inside hown3
  have hat3' : ∀ q, some q = v2.ownBlock → q < w5.heap.size ∨ (w6.alloc (.cells #[.slice ra x.length rc] 22)).heap.size ≤ q := fun q hq => by
    rcases hat3 with e | e
    · exact .inl (own_inside hown1 q (by rw [← e]; exact hq))
    · right
      rw [e] at hq
      simp only [Option.some.injEq] at hq
      omega
  obtain ⟨g2, cap2, ev2⟩ := ownsRow_succ hown3
  subst ev2
  have FIN : Hid (∀ v3 w9, w9.ownsRow w4.heap.size 22 1 v3 (n + 1 + (xs.length - n)) (((List.range n).map f ++ [.slice ra x.length rc]) ++ (List.range (xs.length - n)).map (fun j => f (n + j))) → w8.grownBy w9 (Value.slice (some ⟨g2, 0, none⟩) (n + 1) cap2).ownBlock →
      (RSetAt S (w9.setCell ⟨rb, 1, none⟩ v3) rb o (insX o x xs) ∧ Keeps (fun b => b = rb) w (w9.setCell ⟨rb, 1, none⟩ v3)) ∧ w9.cell? ⟨rb, 0, none⟩ = some (.slice oa o.length oc) ∧ w9.cell? ⟨rb, 1, none⟩ = some (.slice (some ⟨b, off, none⟩) xs.length cap) ∧ w9.frozen? ⟨rb, 1, none⟩ = false) := fun v3 w9 ho4 hg4 => by
    have hK89 := own_keep hown3 hg4
    have b49 : Below w4.heap.size w4 w9 := b48.trans (hK89.below (by omega) (fun b hb => hb))
    have hr9 : IntsS (fun q => w4.heap.size ≤ q) w9 (.slice ra x.length rc) x := by
      refine (hr8.stays ((keeps_grown (O := fun q => some q = (Value.slice (some ⟨g2, 0, none⟩) (n + 1) cap2).ownBlock) hg4 (fun _ h => h)).stays (fun q _ hq e => ?_))).mono (fun q _ hq => by omega)
      rcases hat3' q e with h | h
      · omega
      · omega
    have hd := rins_done (f := f) (r := .slice ra x.length rc) (unhide HH) (fun j hj => (unhide HF).2 j hj) (unhide HB04) b49 (unhide HNEW) hr9 (v3 := v3) (by
      rw [← unhide HN]
      have e : n + 1 + (xs.length - n) = xs.length + 1 := by omega
      rw [e] at ho4
      exact ho4)
    obtain ⟨p0, p1, _, p3⟩ := two_cells ((b49.block _ (by omega)).trans (((unhide HB04).block _ hlt0).trans (unhide HHH)))
    exact ⟨hd, p0, p1, p3⟩
  have CELLS : Hid (∀ j u, ((List.range (xs.length - n)).map (fun j => f (n + j)))[j]? = some u → w8.cell? ((⟨b, off + n, none⟩ : Addr).add j) = some u) := fun j u hj => by
    rw [List.getElem?_map, Option.map_eq_some_iff] at hj
    obtain ⟨j', hj', rfl⟩ := hj
    obtain ⟨hjl, rfl⟩ := List.getElem?_eq_some_iff.1 hj'
    simp only [List.length_range] at hjl
    rw [Addr.add_lit, List.getElem_range, Nat.add_assoc]
    exact hcell8 (n + j) (by omega)
  have ONES : Hid (∀ u ∈ (List.range (xs.length - n)).map (fun j => f (n + j)), u.oneCell' = true) := fun u hu => by
    obtain ⟨j, hj, rfl⟩ := List.mem_map.1 hu
    exact h1c _ (by have := List.mem_range.1 hj; omega)
  obtain ⟨z0, z1, _, z3⟩ := two_cells ((b48.block _ (by omega)).trans (((unhide HB04).block _ hlt0).trans (unhide HHH)))
  have HR1 := hide hrun1
  have HR2 := hide hrun2
  have HR3 := hide hrun3
  have HO3 := hide hown3
  have hsz8 : w4.heap.size ≤ w8.heap.size := b48.size
  have hm1 : n + 1 + (xs.length - n) ≤ maxLen := by unfold maxLen; omega
  have hm2 : (n + 1 + (xs.length - n)) * 24 ≤ 140737488355328 := by omega
  clear hrun1 hrun2 hrun3 hown1 hown1' hown2 hown3 hgr1 hgr3 hat3 hat3' hr8 hK78 b45 b6 b67 b78 b48 hx4 hcell8 h1c HROW hlt2 hs78 hs67 hs56
  by_cases hcn : n < cap
  case pos =>
    have hcn2 : ¬ (cap - n = 0) := by omega
    have hcn3 : ¬ (cap = n) := by omega
    go_wp2_with (at_builtin; first
      | (refine wpList_append_run _ rfl _ _ 32 rfl _ _ rfl rfl _ _ (unhide HR1) ?_; clear HR1)
      | (refine wpList_append_run _ rfl _ _ 22 rfl _ _ rfl rfl _ _ (unhide HR2) ?_; clear HR2)
      | (refine wpList_append_run _ rfl _ _ 32 rfl _ _ rfl rfl _ _ (unhide HR3) ?_; clear HR3)
      | (refine wpList_append_own _ rfl _ _ 32 rfl w4.heap.size 22 i0 (.slice none 0 0) 1 24 ht hi0 hz0 hz1 hz2 rfl (by decide) _ _ _ rfl (unhide HO3) _ (xs.length - n) _ ((List.range (xs.length - n)).map (fun j => f (n + j))) rfl (by simp) (unhide CELLS) (unhide ONES) hm1 hm2 hsz8 ?_; intro v3 w9 hown4 hgr4 hnil4; obtain ⟨HF9, p0, p1, p3⟩ := unhide FIN v3 w9 hown4 hgr4; obtain ⟨g3, cap3, ev3⟩ := ownsRow_succ (k := xs.length) (by rw [show xs.length + 1 = n + 1 + (xs.length - n) by omega]; exact hown4); subst ev3; have HF9' := hide HF9; clear HF9 hown4 hgr4 hnil4))
    all_goals
      go_ret2
      exact ⟨tupBE (unhide HE).1.symm (unhide HE).2.1.symm, by rw [(unhide HE).2.2]; exact (unhide HF9').1, (unhide HF9').2⟩
  case neg =>
    have hcn2 : cap - n = 0 := by omega
    have hcn3 : cap ≤ n := by omega
    go_wp2_with (at_builtin; first
      | (refine wpList_append_run _ rfl _ _ 32 rfl _ _ rfl rfl _ _ (unhide HR1) ?_; clear HR1)
      | (refine wpList_append_run _ rfl _ _ 22 rfl _ _ rfl rfl _ _ (unhide HR2) ?_; clear HR2)
      | (refine wpList_append_run _ rfl _ _ 32 rfl _ _ rfl rfl _ _ (unhide HR3) ?_; clear HR3)
      | (refine wpList_append_own _ rfl _ _ 32 rfl w4.heap.size 22 i0 (.slice none 0 0) 1 24 ht hi0 hz0 hz1 hz2 rfl (by decide) _ _ _ rfl (unhide HO3) _ (xs.length - n) _ ((List.range (xs.length - n)).map (fun j => f (n + j))) rfl (by simp) (by intro j u hj; rw [show xs.length - n = 0 by omega] at hj; simp at hj) (unhide ONES) hm1 hm2 hsz8 ?_; intro v3 w9 hown4 hgr4 hnil4; obtain ⟨HF9, p0, p1, p3⟩ := unhide FIN v3 w9 hown4 hgr4; obtain ⟨g3, cap3, ev3⟩ := ownsRow_succ (k := xs.length) (by rw [show xs.length + 1 = n + 1 + (xs.length - n) by omega]; exact hown4); subst ev3; have HF9' := hide HF9; clear HF9 hown4 hgr4 hnil4))
    all_goals
      go_ret2
      exact ⟨tupBE (unhide HE).1.symm (unhide HE).2.1.symm, by rw [(unhide HE).2.2]; exact (unhide HF9').1, (unhide HF9').2⟩
end Go.Proofs.Ytmjlhmhkbfnccaa
