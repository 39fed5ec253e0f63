/- Orders that is refused; alive. -/
import Derived.Test.YtclialdbaclpoaaOrdersF
namespace Go.Proofs.Ytclialdbaclpoaa
open Go.RowKit Go.Shelf Go.Maps

/-- What Orders tells. -/
def ordE (width : Int) (l : List Int) : Int := if width < 0 ∨ 8 < width then 1 else lookE width.toNat l
theorem ordE_nat {wd : Nat} (h : wd ≤ 8) (l : List Int) : ordE (wd : Int) l = lookE wd l := by
  unfold ordE
  rw [if_neg (by omega), Int.toNat_natCast]

set_option maxRecDepth 100000 in
set_option maxHeartbeats 4000000 in
theorem orders_no (w : World) (width : Int) (v : Value) (l : List Int) (h : Ints w.heap.size w v l) (hl : ordE width l ≠ 0) :
    Calls Try.prog 12 #[.int .i64 width, v] w fun e w' => e = .returned (.tuple #[.slice none 0 0, .int .i64 (ordE width l)]) ∧ w' = w := by
  by_cases hb : width < 0 ∨ 8 < width
  · have HE : Hid (ordE width l = 1) := if_pos hb
    obtain ⟨va, vc, rfl, _⟩ := id h
    clear h hl
    by_cases h0 : width < 0
    · go_enter Try.func12, Try.ntmps12
      go_wp2_with fail
      go_ret2
      exact ⟨by rw [unhide HE]; rfl, rfl⟩
    · have h8 : 8 < width := by omega
      go_enter Try.func12, Try.ntmps12
      go_wp2_with fail
      go_ret2
      exact ⟨by rw [unhide HE]; rfl, rfl⟩
  · obtain ⟨wd, rfl⟩ : ∃ wd : Nat, width = (wd : Int) := ⟨width.toNat, by omega⟩
    have hw : wd ≤ 8 := by omega
    rw [ordE_nat hw] at hl ⊢
    have hlk := look_any w.heap.size w v l h wd hw
    obtain ⟨va, vc, rfl, _⟩ := id h
    have hz : (lookE wd l != 0) = true := by simpa using hl
    generalize lookE wd l = e8 at hlk hz
    have hw0 : ¬ ((wd : Int) < 0) := by omega
    have hw8 : ¬ ((8 : Int) < (wd : Int)) := by omega
    clear h hl hb
    go_enter Try.func12, Try.ntmps12
    go_wp2_with fail
    refine hlk.mono ?_
    clear hlk
    rintro e w' ⟨rfl, rfl⟩
    go_wp2_with fail
    go_ret2
    exact ⟨rfl, rfl⟩

theorem two_orders {n : Nat} (h : IsLeast [1, 3, 2] n) : n = 2 := by
  refine h.same (m := [1, 3, 2]) ⟨[0, 1, 2, 3], fun x => ?_, by decide, by decide, [(0, 2), (1, 3)], ⟨⟨by decide, by decide, by decide⟩, fun qs hq => ?_⟩, rfl⟩ (fun _ => Iff.rfl)
  · simp only [List.mem_cons, List.not_mem_nil, or_false]
    constructor
    · rintro (h | h | h | h)
      · exact .inl h
      · exact .inr (.inl h)
      · exact .inr (.inr (.inr h))
      · exact .inr (.inr (.inl h))
    · rintro (h | h | h | h)
      · exact .inl h
      · exact .inr (.inl h)
      · exact .inr (.inr (.inr h))
      · exact .inr (.inr (.inl h))
  · have := hq.le (fun x => x != 0) (fun x => x == 3) (by decide)
    exact this
theorem lit3 (w : World) (a b c : Int) : Ints (w.alloc (.cells #[.int .i64 a, .int .i64 b, .int .i64 c] 3)).heap.size (w.alloc (.cells #[.int .i64 a, .int .i64 b, .int .i64 c] 3)) (.slice (some ⟨w.heap.size, 0, none⟩) 3 3) [a, b, c] := by
  have hn := World.alloc_heap_new w (.cells #[.int .i64 a, .int .i64 b, .int .i64 c] 3)
  refine ⟨_, 3, rfl, Nat.le_refl _, by omega, fun j x hj => ⟨w.heap.size, 0, rfl, by simp, ?_⟩⟩
  match j, hj with
  | 0, hj => simp at hj; subst hj; rw [cell_at hn]; rfl
  | 1, hj => simp at hj; subst hj; rw [cell_at hn]; rfl
  | 2, hj => simp at hj; subst hj; rw [cell_at hn]; rfl
theorem alloc_below (w : World) (o : Obj) : Below w.heap.size w (w.alloc o) := (Below.refl _ w).alloc (Nat.le_refl _) o
theorem OL.len {base : Nat} {w : World} {v : Value} {os : List (List Int)} (h : OL base w v os) : ∃ a c, v = .slice a os.length c := by
  obtain ⟨vs, h1, _⟩ := h
  rcases h1.2 with ⟨e, e2⟩ | ⟨g, cap, cur, e, _⟩
  · exact ⟨none, 0, by rw [e, e2]⟩
  · exact ⟨_, _, e⟩

set_option maxRecDepth 100000 in
set_option maxHeartbeats 4000000 in
theorem alive_any (w : World) : Calls Try.prog 11 #[] w fun e w' => e = .returned (.bool true) ∧ Below w.heap.size w w' := by
  have hle := least_ok (w.alloc (.cells #[.int .i64 1, .int .i64 3, .int .i64 2] 3)) _ [1, 3, 2] (lit3 w 1 3 2) (by decide)
  have b1 := alloc_below w (.cells #[.int .i64 1, .int .i64 3, .int .i64 2] 3)
  have HB := hide b1
  clear b1
  go_enter Try.func11, Try.ntmps11
  go_wp2_with fail
  refine hle.mono ?_
  clear hle
  rintro e w2 ⟨n, rfl, hn, b2⟩
  have h2 := two_orders hn
  subst h2
  have hor := orders_ok (w2.alloc (.cells #[.int .i64 1, .int .i64 3, .int .i64 2] 3)) 2 _ [1, 3, 2] (lit3 w2 1 3 2) (by omega) (by decide)
  have HB2 := hide (And.intro b2 (alloc_below w2 (.cells #[.int .i64 1, .int .i64 3, .int .i64 2] 3)))
  clear hn b2
  go_wp2_with fail
  refine hor.mono ?_
  clear hor
  rintro e w3 ⟨r, os, rfl, hOL, hlst, _, hserv, b3⟩
  have h2 := two_orders hlst
  have hpk := pick_any _ w3 r os hOL.list 2
  rw [pick_some (hserv 2 (by simp))] at hpk
  obtain ⟨ra, rc, er⟩ := hOL.len
  rw [h2] at er
  subst er
  generalize pickN os 2 = pn at hpk
  have HB3 := hide b3
  clear hOL hlst hserv h2 b3
  go_wp2_with fail
  refine hpk.mono ?_
  clear hpk
  rintro e w4 ⟨rfl, hw4⟩
  subst hw4
  go_wp2_with fail
  go_ret
  obtain ⟨b2, b2'⟩ := unhide HB2
  have b1 := unhide HB
  have b3 := unhide HB3
  have b12 := b1.trans (b2.mono b1.size)
  have b13 := b12.trans (b2'.mono b12.size)
  exact ⟨rfl, b13.trans (b3.mono b13.size)⟩

set_option maxRecDepth 100000 in
set_option maxHeartbeats 4000000 in
theorem picks_walk (w : World) (ov : Value) (os : List (List Int)) (s : Int) (h : ListAt (fun b => b < w.heap.size) w ov os) :
    Calls Try.prog 5 #[ov, .int .i64 s] w fun e w' => e = .returned (.bool true) ∧ Below w.heap.size w w' := by
  have h1 := pick_any _ w ov os h s
  have h2 := rpick_any _ w ov os h s
  have ha := alive_any w
  obtain ⟨f, ⟨oa, oc, rfl, _⟩, _⟩ := id h
  generalize pickN os s = pn at h1 h2
  generalize pickB os s = pb at h1 h2
  clear h
  cases pb
  all_goals
    go_enter Try.func5, Try.ntmps5
    go_wp2_with fail
    refine h1.mono ?_
    clear h1
    rintro e w1 ⟨rfl, hw1⟩
    subst hw1
    go_wp2_with fail
    refine h2.mono ?_
    clear h2
    rintro e w2 ⟨rfl, hw2⟩
    subst hw2
    go_wp2_with fail
    refine ha.mono ?_
    clear ha
    rintro e w3 ⟨rfl, b3⟩
    have HB := hide b3
    clear b3
    go_wp2_with fail
    go_ret
    exact ⟨rfl, unhide HB⟩
end Go.Proofs.Ytclialdbaclpoaa
