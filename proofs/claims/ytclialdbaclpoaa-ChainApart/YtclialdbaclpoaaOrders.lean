/- Walks of Orders and Least. -/
import Derived.Test.YtclialdbaclpoaaOrderOf
namespace Go.Proofs.Ytclialdbaclpoaa
open Go.RowKit Go.Shelf Go.Maps

/-- How few orders are enough. -/
def IsLeast (l : List Int) (n : Nat) : Prop := ∃ W, (∀ x, x ∈ W ↔ x = 0 ∨ x ∈ l) ∧ (∀ x ∈ W, 0 ≤ x) ∧ Rows_ W n
theorem IsLeast.same {l m : List Int} {n k : Nat} (h : IsLeast l n) (g : IsLeast m k) (e : ∀ x, x ∈ l ↔ x ∈ m) : n = k := by
  obtain ⟨W, h1, _, h2⟩ := h
  obtain ⟨V, g1, _, g2⟩ := g
  exact h2.same g2 fun x => by rw [h1, g1, e]
theorem Prs.rows {w : World} {pv : Value} {l : List Int} {N : Nat} {f ab be : Nat → Int} (h : Prs w pv l N f ab be) : IsLeast l (firstsL N be).length := by
  obtain ⟨hp, ⟨A, B, hD, hA⟩, _⟩ := h.done
  obtain ⟨ps, h1, h2⟩ := hp.pb.top h.up.inj hD (fun i hi => by
    rcases hp.up i hi with e | ⟨k, hk, e1, e2, _⟩
    · exact .inl (hA i hi e)
    · exact .inr ⟨k, hk, e2⟩)
  refine ⟨vals N f, h.all, fun x hx => ?_, vals_nodup h.up.inj, ps, h1, ?_⟩
  · obtain ⟨j, hj, rfl⟩ := mem_vals.1 hx
    exact (h.small j hj).1
  · rw [h2, vals_length]
    exact firstsL_len N be
theorem Prs.keeps {O : Nat → Prop} {w w' : World} {pv : Value} {l : List Int} {N : Nat} {f ab be : Nat → Int} (h : Prs w pv l N f ab be) (hk : Keeps O w w') (hO : ∀ b, b < w.heap.size → ¬ O b) : Prs w' pv l N f ab be := by
  obtain ⟨sb, sc, a, ac, b, bc, e, h1, h2, h3⟩ := h.mem
  exact ⟨⟨sb, sc, a, ac, b, bc, e, h1.keeps hk (hO _ h1.lt), h2.keeps hk (hO _ h2.lt), h3.keeps hk (hO _ h3.lt)⟩, h.n1, h.n2, h.up, h.small, h.all, h.done⟩
theorem Prs.later {w w' : World} {pv : Value} {l : List Int} {N : Nat} {f ab be : Nat → Int} (h : Prs w pv l N f ab be) (hb : Below w.heap.size w w') : Prs w' pv l N f ab be := h.keeps (O := fun _ => False) (Keeps.of_below hb) (fun _ _ e => e)

/-- A row of rows of numbers, all of one's own. -/
def OL (base : Nat) (w : World) (v : Value) (os : List (List Int)) : Prop := ∃ vs, w.ownsRow base 22 1 v os.length vs ∧ ∀ j, j < os.length → ∃ u, vs[j]? = some u ∧ OwnI base w u (os.getD j []) ∧ ∀ b, some b = u.ownBlock → some b ≠ v.ownBlock
theorem OL.nil (base : Nat) (w : World) : OL base w (.slice none 0 0) [] := ⟨[], World.ownsRow_nil _ _ _ _, fun j hj => by simp at hj⟩
theorem ownsRow_keeps {base : Nat} {O : Nat → Prop} {A B : World} {e : TypeId} {v : Value} {n : Nat} {vs : List Value} (h : A.ownsRow base e 1 v n vs) (hk : Keeps O A B) (hn : ∀ b, some b = v.ownBlock → ¬ O b) : B.ownsRow base e 1 v n vs := by
  refine ⟨h.1, ?_⟩
  rcases h.2 with h | ⟨g, cap, cur, h1, h2, h3, h4⟩
  · exact .inl h
  · exact .inr ⟨g, cap, cur, h1, h2, hk.same _ _ h3 (hn g (by rw [h1]; rfl)), h4⟩
theorem OL.keeps {base : Nat} {O : Nat → Prop} {A B : World} {v : Value} {os : List (List Int)} (h : OL base A v os) (hk : Keeps O A B) (hn : ∀ b, b < A.heap.size → ¬ O b) : OL base B v os := by
  obtain ⟨vs, h1, h2⟩ := h
  refine ⟨vs, ownsRow_keeps h1 hk (fun b hb => hn b (h1.lt b hb.symm).2), fun j hj => ?_⟩
  obtain ⟨u, u1, u2, u3⟩ := h2 j hj
  exact ⟨u, u1, u2.keeps hk (fun b hb => hn b (u2.block b hb).2), u3⟩
theorem appT1_run {base : Nat} (w : World) (v u : Value) (n : Nat) (vs : List Value) (h : w.ownsRow base 22 1 v n vs) (hu : u.oneCell' = true) (hb : base ≤ w.heap.size) (hn : n ≤ 2000) :
    ∃ r w', (Builtin.append_ #[30, 30] 30 #[v, .slice (some ⟨w.heap.size, 0, none⟩) 1 1]).run Try.prog (w.alloc (.cells #[u] 22)) = .ok r w' ∧ w'.ownsRow base 22 1 r (n + 1) (vs ++ [u]) ∧ Keeps (fun b => some b = v.ownBlock) w w' ∧ ∀ b, some b = r.ownBlock → some b = v.ownBlock ∨ w.heap.size ≤ b := by
  obtain ⟨i, h1, h2, h3, h4⟩ := infoT
  have ht : Try.prog.underlying 30 = some (.slice 22) := by kernel_rfl
  obtain ⟨r, w', hr, ho, hg, _, hat⟩ := run_append_own_at (P := Try.prog) (w.alloc (.cells #[u] 22)) base 30 30 22 i (.slice none 0 0) 1 24 ht h1 h2 h3 h4 rfl (by decide) v n vs (World.ownsRow.alloc h _) ⟨w.heap.size, 0, none⟩ 1 1 [u] rfl (fun j x hj => by
    cases j with
    | zero =>
      simp only [List.getElem?_cons_zero, Option.some.injEq] at hj
      subst hj
      rw [Addr.add_lit]
      exact (cell_at (World.alloc_heap_new _ _) _).trans rfl
    | succ j => simp at hj) (fun x hx => by simp at hx; subst hx; exact hu) (by unfold maxLen; omega) (by omega) (by simp; omega)
  refine ⟨r, w', hr, ho, ((Keeps.refl _ w).alloc _).trans (keeps_grown (O := fun b => some b = v.ownBlock) hg (fun b hb => hb)) (fun _ _ e => e), fun b hb2 => ?_⟩
  rcases hat with e | e
  · exact .inl (hb2.trans e)
  · rw [e] at hb2
    simp only [Option.some.injEq, World.size_alloc] at hb2
    exact .inr (by omega)
/-- One more. -/
theorem OL.snoc {base : Nat} {w w' : World} {v u r : Value} {os : List (List Int)} {o : List Int} (h : OL base w v os) (hu : OwnI base w u o) (hne : ∀ b, some b = u.ownBlock → some b ≠ v.ownBlock)
    (hrow : ∀ vs, w.ownsRow base 22 1 v os.length vs → w'.ownsRow base 22 1 r (os.length + 1) (vs ++ [u])) (hK : Keeps (fun b => some b = v.ownBlock) w w') (hr : ∀ b, some b = r.ownBlock → some b = v.ownBlock ∨ w.heap.size ≤ b) : OL base w' r (os ++ [o]) := by
  obtain ⟨vs, h1, h2⟩ := h
  have hl : vs.length = os.length := by have := h1.1; omega
  refine ⟨vs ++ [u], by rw [List.length_append]; exact hrow vs h1, fun j hj => ?_⟩
  rw [List.length_append] at hj
  simp only [List.length_cons, List.length_nil] at hj
  by_cases e : j < os.length
  · obtain ⟨x, x1, x2, x3⟩ := h2 j e
    refine ⟨x, by rw [List.getElem?_append_left (by omega)]; exact x1, ?_, fun b hb g => ?_⟩
    · have e2 : (os ++ [o]).getD j [] = os.getD j [] := by rw [List.getD, List.getD, List.getElem?_append_left e]
      rw [e2]
      exact x2.keeps hK (fun b hb => x3 b hb)
    · rcases hr b g with k | k
      · exact x3 b hb k
      · have := (x2.block b hb).2; omega
  · have e3 : j = os.length := by omega
    subst e3
    refine ⟨u, by rw [List.getElem?_append_right (by omega), hl, Nat.sub_self]; rfl, ?_, fun b hb g => ?_⟩
    · have e2 : (os ++ [o]).getD os.length [] = o := by rw [List.getD, List.getElem?_append_right (Nat.le_refl _), Nat.sub_self]; rfl
      rw [e2]
      exact hu.keeps hK (fun b hb => hne b hb)
    · rcases hr b g with k | k
      · exact hne b hb k
      · have := (hu.block b hb).2; omega
/-- .. read. -/
theorem OL.list {base : Nat} {w : World} {v : Value} {os : List (List Int)} (h : OL base w v os) : ListAt (fun b => base ≤ b) w v os := by
  obtain ⟨vs, h1, h2⟩ := h
  have hl : vs.length = os.length := by have := h1.1; omega
  refine ⟨fun j => vs.getD j undef, ?_, fun j hj => ?_⟩
  · refine Row.of_own (e := 22) ?_
    have e : (List.range os.length).map (fun j => vs.getD j undef) = vs := by
      rw [← hl]
      apply List.ext_getElem
      · simp
      · intro i h1 h2
        simp [List.getD, List.getElem?_eq_getElem h2]
    rw [e]
    exact h1
  · obtain ⟨u, u1, u2, _⟩ := h2 j hj
    have e : vs.getD j undef = u := by simp [List.getD, u1]
    show IntsS _ w (vs.getD j undef) _
    rw [e]
    exact u2.intsS

def OrR (wd N : Nat) (f ab be : Nat → Int) (B : Nat) (w3 : World) (ov i : Value) (wr : World) : Prop := ∃ (k : Nat) (os : List (List Int)), k ≤ (firstsL N be).length ∧ i = .int .i64 (k : Int) ∧ os.length = k ∧ OL B wr ov os ∧ (∀ j, j < k → ∃ rl, RowTo N f ab ((firstsL N be).getD j 0) rl (-1) ∧ Serves wd (rl.map f) (os.getD j [])) ∧ Below B w3 wr
/-- All searches are served. -/
theorem orders_serve {wd N : Nat} {w : World} {pv : Value} {f ab be : Nat → Int} {l : List Int} {os : List (List Int)} (h : Prs w pv l N f ab be) (hl : os.length = (firstsL N be).length) (hs : ∀ j, j < os.length → ∃ rl, RowTo N f ab ((firstsL N be).getD j 0) rl (-1) ∧ Serves wd (rl.map f) (os.getD j [])) :
    (∀ o ∈ os, right o = true ∧ o.length = wd) ∧ ∀ x ∈ l, ∃ o ∈ os, coverB o x = true := by
  refine ⟨fun o ho => ?_, fun x hx => ?_⟩
  · obtain ⟨j, hj, rfl⟩ := List.getElem_of_mem ho
    obtain ⟨rl, _, h1, h2, _⟩ := hs j hj
    rw [List.getD, List.getElem?_eq_getElem hj] at h1 h2
    exact ⟨h1, h2⟩
  · have hP : ∀ s, s < N → be s = -1 → ∃ rl, RowTo N f ab s rl (-1) ∧ ∃ o ∈ os, Serves wd (rl.map f) o := fun s hs1 hs2 => by
      obtain ⟨j, hj, e⟩ := List.getElem_of_mem (mem_firstsL.2 ⟨hs1, hs2⟩)
      obtain ⟨rl, r1, r2⟩ := hs j (by omega)
      rw [List.getD, List.getElem?_eq_getElem hj] at r1
      refine ⟨rl, e ▸ r1, os.getD j [], ?_, r2⟩
      rw [List.getD, List.getElem?_eq_getElem (show j < os.length by omega)]
      exact List.getElem_mem _
    obtain ⟨j, hj, e⟩ := mem_vals.1 ((h.all x).2 (.inr hx))
    obtain ⟨R, hR⟩ : ∃ R : Nat → List Nat, ∀ s, s < N → be s = -1 → RowTo N f ab s (R s) (-1) ∧ ∃ o ∈ os, Serves wd ((R s).map f) o := by
      have : ∀ s, ∃ rl, s < N → be s = -1 → RowTo N f ab s rl (-1) ∧ ∃ o ∈ os, Serves wd (rl.map f) o := fun s => by
        by_cases g : s < N ∧ be s = -1
        · obtain ⟨rl, h⟩ := hP s g.1 g.2
          exact ⟨rl, fun _ _ => h⟩
        · exact ⟨[], fun a b => absurd ⟨a, b⟩ g⟩
      exact Classical.axiomOfChoice this
    obtain ⟨s, s1, s2, s3⟩ := rows_all h.done.1 h.up (fun j hj => (h.small j hj).1) R (fun s a b => (hR s a b).1) j hj
    obtain ⟨o, o1, o2⟩ := (hR s s1 s2).2
    exact ⟨o, o1, by rw [← e]; exact o2.2.2 _ (List.mem_map_of_mem s3)⟩
theorem look_zero {wd : Nat} {l : List Int} (h : lookE wd l = 0) (hw : wd ≤ 8) : l.length ≤ 256 ∧ (∀ x ∈ l, 0 ≤ x ∧ x < ((2 ^ wd : Nat) : Int)) ∧ ∀ x ∈ l, 0 ≤ x ∧ x < 256 := by
  unfold lookE at h
  split at h
  · rename_i h1
    split at h
    · rename_i h2
      have h3 : ∀ x ∈ l, 0 ≤ x ∧ x < ((2 ^ wd : Nat) : Int) := fun x hx => okB_iff.1 (List.all_eq_true.1 h2 x hx)
      have := pow_lt wd hw
      exact ⟨h1, h3, fun x hx => by have := h3 x hx; omega⟩
    · simp at h
  · simp at h

set_option maxRecDepth 100000 in
set_option maxHeartbeats 4000000 in
theorem least_ok (w : World) (v : Value) (l : List Int) (h : Ints w.heap.size w v l) (hl : lookE 8 l = 0) :
    Calls Try.prog 9 #[v] w fun e w' => ∃ n : Nat, e = .returned (.tuple #[.int .i64 (n : Int), .int .i64 0]) ∧ IsLeast l n ∧ Below w.heap.size w w' := by
  have hlk := look_any w.heap.size w v l h 8 (Nat.le_refl _)
  rw [hl] at hlk
  obtain ⟨z1, _, z3⟩ := look_zero hl (Nat.le_refl _)
  have hpa := paired_any w v l h z1 z3
  obtain ⟨va, vc, rfl, _⟩ := id h
  clear h hl z3
  go_enter Try.func9, Try.ntmps9
  go_wp2_with fail
  refine hlk.mono ?_
  clear hlk
  rintro e w' ⟨rfl, rfl⟩
  go_wp2_with fail
  refine hpa.mono ?_
  clear hpa
  rintro e w1 ⟨pv, N, f, ab, be, rfl, hp, b1⟩
  have hfs := firsts_any w1 pv l N f ab be hp
  have HP := hide (And.intro hp b1)
  obtain ⟨sb, sc, a, ac, b, bc, rfl, _⟩ := hp.mem
  clear hp b1
  go_wp2_with fail
  refine hfs.mono ?_
  clear hfs
  rintro e w2 ⟨r, rfl, hown, b2⟩
  have hlen := hown.lenOf
  rw [toI_len] at hlen
  have HB := hide b2
  obtain ⟨va, vn, vc, rfl⟩ : ∃ va vn vc, r = .slice va vn vc := by
    rcases hown.2 with ⟨e, _⟩ | ⟨g, cap, cur, e, _⟩
    · exact ⟨_, _, _, e⟩
    · exact ⟨_, _, _, e⟩
  have HL : Hid (vn = (firstsL N be).length) := hlen
  clear hown b2 hlen
  go_wp2_with fail
  go_ret2
  obtain ⟨hp, b1⟩ := unhide HP
  exact ⟨vn, rfl, by rw [unhide HL]; exact hp.rows, b1.trans ((unhide HB).mono b1.size)⟩

set_option maxRecDepth 100000 in
set_option maxHeartbeats 4000000 in
theorem least_no (w : World) (v : Value) (l : List Int) (h : Ints w.heap.size w v l) (hl : lookE 8 l ≠ 0) :
    Calls Try.prog 9 #[v] w fun e w' => e = .returned (.tuple #[.int .i64 0, .int .i64 (lookE 8 l)]) ∧ w' = w := by
  have hlk := look_any w.heap.size w v l h 8 (Nat.le_refl _)
  obtain ⟨va, vc, rfl, _⟩ := id h
  have hz : (lookE 8 l != 0) = true := by simpa using hl
  generalize lookE 8 l = e8 at hlk hz
  clear h hl
  go_enter Try.func9, Try.ntmps9
  go_wp2_with fail
  refine hlk.mono ?_
  clear hlk
  rintro e w' ⟨rfl, rfl⟩
  go_wp2_with fail
  go_ret2
  exact ⟨rfl, rfl⟩
end Go.Proofs.Ytclialdbaclpoaa
