/- Walks of firsts and from. -/
import Derived.Test.YtclialdbaclpoaaPaired
namespace Go.Proofs.Ytclialdbaclpoaa
open Go.RowKit Go.Shelf Go.Maps

/-- The places that have none below them. -/
def firstsL (N : Nat) (be : Nat → Int) : List Nat := (List.range N).filter fun k => be k == -1
theorem firstsL_len (N : Nat) (be : Nat → Int) : (firstsL N be).length + (hads N be).length = N := by
  have := filter_two (fun k => be k == -1) (List.range N)
  rw [List.length_range] at this
  exact this.symm
theorem firstsL_succ (be : Nat → Int) (k : Nat) : firstsL (k + 1) be = firstsL k be ++ (if be k = -1 then [k] else []) := by
  unfold firstsL
  rw [List.range_succ, List.filter_append]
  by_cases h : be k = -1
  · simp [h]
  · simp [h]
theorem mem_firstsL {N : Nat} {be : Nat → Int} {k : Nat} : k ∈ firstsL N be ↔ k < N ∧ be k = -1 := by
  rw [firstsL, List.mem_filter, List.mem_range, beq_iff_eq]
theorem firstsL_le (k : Nat) (be : Nat → Int) : (firstsL k be).length ≤ k := by have := firstsL_len k be; omega
theorem OwnI.base {base base' : Nat} {w : World} {v : Value} {l : List Int} (h : OwnI base w v l) (hb : base' ≤ base) : OwnI base' w v l := by
  refine ⟨h.1, ?_⟩
  rcases h.2 with h | ⟨g, cap, cur, h1, h2, h3⟩
  · exact .inl h
  · exact .inr ⟨g, cap, cur, h1, by omega, h3⟩
theorem OwnI.nil (base : Nat) (w : World) : OwnI base w (.slice none 0 0) [] := World.ownsRow_nil _ _ _ _

def FsR (be : Nat → Int) (N B : Nat) (w1 : World) (v i : Value) (wr : World) : Prop := ∃ k : Nat, k ≤ N ∧ i = .int .i64 (k : Int) ∧ OwnI B wr v (toI (firstsL k be)) ∧ Below B w1 wr

set_option maxRecDepth 100000 in
set_option maxHeartbeats 4000000 in
theorem firsts_any (w : World) (pv : Value) (l : List Int) (N : Nat) (f ab be : Nat → Int) (h : Prs w pv l N f ab be) :
    Calls Try.prog 20 #[pv] w fun e w' => ∃ r, e = .returned r ∧ OwnI w.heap.size w' r (toI (firstsL N be)) ∧ Below w.heap.size w w' := by
  obtain ⟨sb, sc, a, ac, b, bc, rfl, hs, ha, hb⟩ := h.mem
  have hN := h.n2
  obtain ⟨b1, hnw, hs1⟩ := box3 w (.slice (some ⟨sb, 0, none⟩) N sc) (.slice (some ⟨a, 0, none⟩) N ac) (.slice (some ⟨b, 0, none⟩) N bc) 44
  obtain ⟨w1, hw1⟩ : ∃ w1, w1 = w.alloc (.cells #[.slice (some ⟨sb, 0, none⟩) N sc, .slice (some ⟨a, 0, none⟩) N ac, .slice (some ⟨b, 0, none⟩) N bc] 44) := ⟨_, rfl⟩
  rw [← hw1] at b1 hnw hs1
  obtain ⟨c0, c1, c2, _⟩ := three_cells hnw
  have lb := hb.lt
  have HB := hide (And.intro b1 (hb.later b1))
  have HS : Hid (FsR be N w1.heap.size w1 (.slice none 0 0) (.int .i64 0) w1) := ⟨0, Nat.zero_le _, rfl, OwnI.nil _ _, Below.refl _ _⟩
  clear h hs ha hb b1 hnw
  go_enter Try.func20, Try.ntmps20
  go_wp2_with fail
  rw [← hw1]
  clear hw1
  go_wp2_with fail
  go_loopw [3, 9] (fun v i wr => FsR be N w1.heap.size w1 v i wr) (fun _ i _ => N - (intOf i).toNat)
  case atStart => exact unhide HS
  case round =>
    obtain ⟨k, hk, rfl, hown, hbl⟩ := hrel
    by_cases hkN : k < N
    · obtain ⟨x0, _⟩ := ((unhide HB).2.later hbl).cell hkN
      have hle := firstsL_le k be
      obtain ⟨r, w7, hrun, hown7, hK7, hr7⟩ := app1_run wr _ _ (k : Int) hown hbl.size (by rw [toI_len]; omega)
      have hob := hown.block
      have b7 : Below w1.heap.size w1 w7 := hbl.trans (hK7.below hbl.size (fun b e => (hob b e).1))
      by_cases hz : be k = -1
      · have HN : Hid (FsR be N w1.heap.size w1 r (.int .i64 ((k + 1 : Nat) : Int)) w7) := ⟨k + 1, by omega, rfl, by rw [firstsL_succ, if_pos hz, toI_snoc]; exact hown7, b7⟩
        rw [hz] at x0
        obtain ⟨va, vn, vc, rfl⟩ : ∃ va vn vc, u3 = .slice va vn vc := by
          rcases hown.2 with ⟨e, _⟩ | ⟨g, cap, cur, e, _⟩
          · exact ⟨_, _, _, e⟩
          · exact ⟨_, _, _, e⟩
        have HRUN := hide hrun
        clear hown hbl hrun hown7 hK7 hr7 hob b7 hz
        go_wp2_with (at_builtin; refine wpList_append_run _ rfl _ _ 22 rfl _ _ rfl rfl _ _ (unhide HRUN) ?_)
        go_roundw
        case rel =>
          have := unhide HN
          rw [Int.natCast_add] at this
          exact this
        case measure => simp [intOf]; omega
      · have HN : Hid (FsR be N w1.heap.size w1 u3 (.int .i64 ((k + 1 : Nat) : Int)) wr) := ⟨k + 1, by omega, rfl, by rw [firstsL_succ, if_neg hz, List.append_nil]; exact hown, hbl⟩
        have hz1 : (be k == -1) = false := by simpa using hz
        generalize be k = bk at x0 hz1
        clear hown hbl hrun hown7 hK7 hr7 hob b7 hz
        go_wp2_with fail
        go_roundw
        case rel =>
          have := unhide HN
          rw [Int.natCast_add] at this
          exact this
        case measure => simp [intOf]; omega
    · have hkN2 : k = N := by omega
      subst hkN2
      have HE := hide (And.intro hown hbl)
      clear hown hbl
      go_wp2_with fail
      go_ret
      obtain ⟨hown, hbl⟩ := unhide HE
      exact ⟨_, rfl, hown.base (by omega), (unhide HB).1.trans (hbl.mono (by omega))⟩

def FmR (N : Nat) (f ab : Nat → Int) (s B : Nat) (w1 : World) (pl v : Value) (wr : World) : Prop := ∃ (r : List Nat) (p : Int), pl = .int .i64 p ∧ OwnI B wr v (r.map f) ∧ RowTo N f ab s r p ∧ ((p = -1 ∨ (r.length : Int) ≤ p) ∧ r.length ≤ N) ∧ Below B w1 wr
def fMeas (N : Nat) (v : Value) : Nat := if intOf v = -1 then 0 else N - (intOf v).toNat

set_option maxRecDepth 100000 in
set_option maxHeartbeats 4000000 in
theorem from_any (w : World) (pv : Value) (l : List Int) (N : Nat) (f ab be : Nat → Int) (h : Prs w pv l N f ab be) (s : Nat) (hs : s < N) :
    Calls Try.prog 24 #[pv, .int .i64 (s : Int)] w fun e w' => ∃ r rl, e = .returned r ∧ OwnI w.heap.size w' r (rl.map f) ∧ RowTo N f ab s rl (-1) ∧ rl.length ≤ N ∧ Below w.heap.size w w' := by
  obtain ⟨sb, sc, a, ac, b, bc, rfl, hsA, ha, hb⟩ := h.mem
  have hN := h.n2
  obtain ⟨b1, hnw, hs1⟩ := box3 w (.slice (some ⟨sb, 0, none⟩) N sc) (.slice (some ⟨a, 0, none⟩) N ac) (.slice (some ⟨b, 0, none⟩) N bc) 44
  obtain ⟨w1, hw1⟩ : ∃ w1, w1 = w.alloc (.cells #[.slice (some ⟨sb, 0, none⟩) N sc, .slice (some ⟨a, 0, none⟩) N ac, .slice (some ⟨b, 0, none⟩) N bc] 44) := ⟨_, rfl⟩
  rw [← hw1] at b1 hnw hs1
  have HB := hide (And.intro b1 (And.intro (hsA.later b1) (And.intro (ha.later b1) (And.intro h.done.1 (And.intro h.up h.small)))))
  have HS : Hid (FmR N f ab s w1.heap.size w1 (.int .i64 (s : Int)) (.slice none 0 0) w1) := ⟨[], s, rfl, OwnI.nil _ _, RowTo.start hs, ⟨.inr (by simp), by simp⟩, Below.refl _ _⟩
  clear h hsA ha hb b1
  go_enter Try.func24, Try.ntmps24
  go_wp2_with fail
  rw [← hw1]
  clear hw1
  go_wp2_with fail
  go_loopw [1, 5] (fun pl v wr => FmR N f ab s w1.heap.size w1 pl v wr) (fun pl _ _ => fMeas N pl)
  case atStart => exact unhide HS
  case round =>
    obtain ⟨r, p, rfl, hown, hrow, hlen, hbl⟩ := hrel
    by_cases hp : p = -1
    · subst hp
      have HE := hide (And.intro hown (And.intro hrow (And.intro hlen.2 hbl)))
      obtain ⟨va, vn, vc, rfl⟩ : ∃ va vn vc, u5 = .slice va vn vc := by
        rcases hown.2 with ⟨e, _⟩ | ⟨g, cap, cur, e, _⟩
        · exact ⟨_, _, _, e⟩
        · exact ⟨_, _, _, e⟩
      clear hown hrow hlen hbl
      go_wp2_with fail
      go_ret
      obtain ⟨hown, hrow, hln, hbl⟩ := unhide HE
      exact ⟨_, r, rfl, hown.base (by omega), hrow, hln, (unhide HB).1.trans (hbl.mono (by omega))⟩
    · obtain ⟨b0, hsA, ha, hpm, hup, hsm⟩ := unhide HB
      obtain ⟨k, hk, rfl, _⟩ := hrow.link.resolve_left hp
      obtain ⟨c0, c1, c2, _⟩ := three_cells ((hbl.block _ (by omega)).trans hnw)
      obtain ⟨x0, _⟩ := (hsA.later hbl).cell hk
      obtain ⟨y0, _⟩ := (ha.later hbl).cell hk
      have hlen2 := hlen.1.resolve_left hp
      obtain ⟨hrow2, _, hnx⟩ := hrow.step hpm hup (fun j hj => (hsm j hj).1)
      obtain ⟨r7, w7, hrun, hown7, hK7, hr7⟩ := app1_run wr _ _ (f k) hown hbl.size (by rw [List.length_map]; omega)
      have hob := hown.block
      have b7 : Below w1.heap.size w1 w7 := hbl.trans (hK7.below hbl.size (fun b e => (hob b e).1))
      have z1 := (hK7.cell c1 (fun e => by have := (hob _ e).1; simp only at this; omega))
      have z0 := (hK7.cell y0 (fun e => by have := (hob _ e).1; have := ha.lt; simp only at *; omega))
      have HN : Hid (FmR N f ab s w1.heap.size w1 (.int .i64 (ab k)) r7 w7) := ⟨r ++ [k], ab k, rfl, by rw [List.map_append]; exact hown7, hrow2, ⟨by simp only [List.length_append, List.length_cons, List.length_nil]; omega, by simp only [List.length_append, List.length_cons, List.length_nil]; omega⟩, b7⟩
      have HM : Hid (fMeas N (.int .i64 (ab k)) < fMeas N (.int .i64 (k : Int))) := by
        show fMeas N (.int .i64 (ab k)) < fMeas N (.int .i64 (k : Int))
        have e2 : fMeas N (.int .i64 (k : Int)) = N - k := if_neg (by show ¬ ((k : Int) = -1); omega)
        rcases hnx with e | e
        · have : fMeas N (.int .i64 (ab k)) = 0 := if_pos e
          omega
        · have : fMeas N (.int .i64 (ab k)) = N - (ab k).toNat := if_neg (by show ¬ (ab k = -1); omega)
          omega
      obtain ⟨va, vn, vc, rfl⟩ : ∃ va vn vc, u5 = .slice va vn vc := by
        rcases hown.2 with ⟨e, _⟩ | ⟨g, cap, cur, e, _⟩
        · exact ⟨_, _, _, e⟩
        · exact ⟨_, _, _, e⟩
      have HRUN := hide hrun
      have hk1 : ((k : Int) != -1) = true := by simp
      generalize f k = fk at x0 HRUN
      generalize ab k = ak at y0 z0 HN HM
      clear hown hbl hrun hown7 hK7 hr7 hob b7 hrow hrow2 hlen hlen2 hnx b0 hsA ha hpm hup hsm hp
      go_wp2_with (at_builtin; refine wpList_append_run _ rfl _ _ 22 rfl _ _ rfl rfl _ _ (unhide HRUN) ?_)
      go_roundw
      case rel => exact unhide HN
      case measure => exact unhide HM
end Go.Proofs.Ytclialdbaclpoaa
