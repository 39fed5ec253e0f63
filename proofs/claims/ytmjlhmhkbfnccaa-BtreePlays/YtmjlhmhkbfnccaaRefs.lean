/- The document's sets: where a tuple stands, whether it is there. -/
import Derived.Test.YtmjlhmhkbfnccaaFolds
import Derived.Test.YtmjlhmhkbfnccaaQuietR
import Derived.BigQuiet
namespace Go.Proofs.Ytmjlhmhkbfnccaa
open Go.RowKit Go.Shelf

/-- A document's set in memory. -/
structure RSetAt (S : Nat → Prop) (w : World) (rb : Nat) (o : List Int) (xs : List (List Int)) : Prop where
  cells : ∃ ov tv, w.heap[rb]? = some (.cells #[ov, tv] 56 (0, 0)) ∧ IntsS S w ov o ∧ ListAt S w tv xs ∧ (xs = [] → tv = .slice none 0 0)
  ns : ¬ S rb
theorem RSetAt.lt {S : Nat → Prop} {w : World} {rb : Nat} {o : List Int} {xs : List (List Int)} (h : RSetAt S w rb o xs) : rb < w.heap.size := by
  obtain ⟨ov, tv, h1, _⟩ := h.cells
  exact lt_heap h1
theorem RSetAt.stays {S : Nat → Prop} {w w' : World} {rb : Nat} {o : List Int} {xs : List (List Int)} (h : RSetAt S w rb o xs) (hs : Stays S w w') (hh : w'.heap[rb]? = w.heap[rb]?) : RSetAt S w' rb o xs := by
  obtain ⟨ov, tv, h1, h2, h3, h4⟩ := h.cells
  exact ⟨⟨ov, tv, hh.trans h1, h2.stays hs, h3.stays hs, h4⟩, h.ns⟩
theorem RSetAt.later {S : Nat → Prop} {w w' : World} {rb : Nat} {o : List Int} {xs : List (List Int)} (h : RSetAt S w rb o xs) (hb : Below w.heap.size w w') : RSetAt S w' rb o xs := h.stays (Stays.of_below hb) (hb.block _ h.lt)
theorem two_cells {w : World} {b : Nat} {x y : Value} {t : TypeId} (h : w.heap[b]? = some (.cells #[x, y] t (0, 0))) :
    w.cell? ⟨b, 0, none⟩ = some x ∧ w.cell? ⟨b, 1, none⟩ = some y ∧ w.frozen? ⟨b, 0, none⟩ = false ∧ w.frozen? ⟨b, 1, none⟩ = false := by simp [World.cell?, World.frozen?, h]

/-- Where a tuple stands. -/
def atN (o x : List Int) (xs : List (List Int)) : Nat := (xs.takeWhile (fun y => decide (cmpA o y x < 0))).length
theorem atN_le (o x : List Int) (xs : List (List Int)) : atN o x xs ≤ xs.length := (List.takeWhile_prefix _).length_le
theorem tw_atL {p : List Int → Bool} : ∀ (L : List (List Int)) (j : Nat), j ≤ (L.takeWhile p).length → j < L.length → (p (L.getD j []) = true → j < (L.takeWhile p).length) ∧ (p (L.getD j []) = false → j = (L.takeWhile p).length)
  | [], j, _, h => by simp at h
  | a :: r, 0, _, _ => by
    refine ⟨fun hp => ?_, fun hp => ?_⟩
    · have hp : p a = true := by simpa using hp
      rw [List.takeWhile_cons_of_pos hp]; simp
    · have hp : p a = false := by simpa using hp
      rw [List.takeWhile_cons_of_neg (by simp [hp])]; rfl
  | a :: r, j + 1, hj, h => by
    by_cases ha : p a = true
    · rw [List.takeWhile_cons_of_pos ha] at hj ⊢
      have := tw_atL (p := p) r j (by simpa using hj) (by simpa using h)
      simpa using this
    · rw [List.takeWhile_cons_of_neg ha] at hj
      simp at hj
def ARel (w : World) (n : Nat) (i : Value) (wr : World) : Prop := ∃ k : Nat, k ≤ n ∧ i = .int .i64 k ∧ Below w.heap.size w wr

set_option maxRecDepth 100000 in
set_option maxHeartbeats 4000000 in
theorem rat_any (S : Nat → Prop) (w : World) (rb : Nat) (o x : List Int) (xs : List (List Int)) (xv : Value) (h : RSetAt S w rb o xs) (hx : Ints w.heap.size w xv x) :
    Calls Try.prog 49 #[.pointer (some ⟨rb, 0, none⟩), xv] w fun e w' => e = .returned (.int .i64 (atN o x xs : Int)) ∧ Below w.heap.size w w' := by
  obtain ⟨ov, tv, hh, hov, ⟨f, ⟨a, cap, rfl, hc1, hc2, hf⟩, hfi⟩, _⟩ := h.cells
  obtain ⟨oa, oc, rfl, _⟩ := id hov
  obtain ⟨xa, xc, rfl, _⟩ := id hx
  have hlt0 := lt_heap hh
  have CELL : Hid (∀ wr, Below w.heap.size w wr → wr.cell? ⟨rb, 0, none⟩ = some (.slice oa o.length oc) ∧ wr.cell? ⟨rb, 1, none⟩ = some (.slice a xs.length cap)) := fun wr hb => by
    obtain ⟨c0, c1, _⟩ := two_cells ((hb.block _ hlt0).trans hh)
    exact ⟨c0, c1⟩
  have ROW : Hid (∀ wr, Below w.heap.size w wr → ∀ j, j < xs.length → ∃ b off, a = some ⟨b, off, none⟩ ∧ wr.cell? ⟨b, off + j, none⟩ = some (f j) ∧ Ints wr.heap.size wr (f j) (xs.getD j [])) := fun wr hb j hj => by
    obtain ⟨b, off, e, _, hc⟩ := hf j hj
    obtain ⟨_, hz, _⟩ := cells_of_cell hc
    exact ⟨b, off, e, (hb.cell (p := ⟨b, off + j, none⟩) (lt_heap hz)).trans hc, ((hfi j hj).later hb).ints⟩
  have HO : Hid (∀ wr, Below w.heap.size w wr → Ints wr.heap.size wr (.slice oa o.length oc) o ∧ Ints wr.heap.size wr (.slice xa x.length xc) x) := fun wr hb => ⟨(hov.later hb).ints, (hx.below hb (Nat.le_refl _)).mono hb.size⟩
  have hle := atN_le o x xs
  have mixed : Try.prog.follows .mixedOrders = true := by kernel_rfl
  clear h hh hov hx hf hfi hlt0
  go_enter Try.func49, Try.ntmps49
  go_wp2_with fail
  go_loopw [5] (fun i wr => ARel w (atN o x xs) i wr) (fun i _ => xs.length - (intOf i).toNat)
  case atStart => exact ⟨0, Nat.zero_le _, rfl, Below.refl _ _⟩
  case round =>
    obtain ⟨k, hk, rfl, hb⟩ := hrel
    obtain ⟨g0, g1⟩ := unhide CELL wr hb
    have HB := hide hb
    by_cases hlt : k < xs.length
    · obtain ⟨b, off, rfl, hc, hy⟩ := unhide ROW wr hb k hlt
      obtain ⟨t1, t2⟩ := tw_atL (p := fun y => decide (cmpA o y x < 0)) xs k hk hlt
      obtain ⟨y, hye⟩ : ∃ y, y = xs.getD k [] := ⟨_, rfl⟩
      rw [← hye] at hy t1 t2
      obtain ⟨c, hce⟩ : ∃ c, c = cmpA o y x := ⟨_, rfl⟩
      have hcm : ∀ n, Calls Try.prog 20 #[.slice oa o.length oc, f k, .slice xa x.length xc] (wr.drewN n) fun e w' => e = .returned (.int .i64 c) ∧ ∃ m, w' = (wr.drewN n).drewN m := fun n => by
        rw [hce]
        exact rcmp_q wr.heap.size (wr.drewN n) _ _ _ o y x (Nat.le_refl _) (unhide HO wr hb).1 hy (unhide HO wr hb).2
      obtain ⟨ya, yc, ey, _⟩ := id hy
      rw [ey] at hc hcm
      have hg : (k : Int) < (xs.length : Int) := by omega
      have hd : decide ((k : Int) < (xs.length : Int)) = true := decide_eq_true hg
      have HCM := hide hcm
      rw [← hce] at t1 t2
      clear hb hye hy ey hcm hce
      by_cases hneg : c < 0
      · have HK := hide (t1 (decide_eq_true hneg))
        have hnd : decide (c < 0) = true := decide_eq_true hneg
        clear t1 t2
        go_wp2_with fail
        go_quiet (first | (go_at_call 20; exact Calls.quiet_of (unhide HCM _)))
        go_wp2_with fail
        go_roundw
        case rel => exact ⟨k + 1, unhide HK, by go_num, below_drewN (unhide HB) _⟩
        case measure => simp [intOf]; omega
      · have HK := hide (t2 (decide_eq_false hneg))
        have hnd : decide (c < 0) = false := decide_eq_false hneg
        clear t1 t2
        go_wp2_with fail
        go_quiet (first | (go_at_call 20; exact Calls.quiet_of (unhide HCM _)))
        go_wp2_with fail
        go_ret
        exact ⟨ret_int (by have := unhide HK; unfold atN; omega), below_drewN (unhide HB) _⟩
    · have hg : ¬ ((k : Int) < (xs.length : Int)) := by omega
      have hd : decide ((k : Int) < (xs.length : Int)) = false := decide_eq_false hg
      have HK : Hid (k = atN o x xs) := by show k = _; omega
      clear hb
      go_wp2_with fail
      go_quiet (fail)
      go_wp2_with fail
      go_ret
      exact ⟨ret_int (by have := unhide HK; omega), below_drewN (unhide HB) _⟩

theorem tw_all {p : List Int → Bool} : ∀ (L : List (List Int)) (y : List Int), y ∈ L.takeWhile p → p y = true
  | [], y, h => by simp at h
  | a :: r, y, h => by
    by_cases ha : p a = true
    · rw [List.takeWhile_cons_of_pos ha] at h
      rcases List.mem_cons.1 h with rfl | h
      · exact ha
      · exact tw_all r y h
    · rw [List.takeWhile_cons_of_neg ha] at h
      cases h
theorem dw_head {p : List Int → Bool} : ∀ (L : List (List Int)) (b : List Int) (r : List (List Int)), L.dropWhile p = b :: r → p b = false
  | [], b, r, h => by simp at h
  | a :: t, b, r, h => by
    by_cases ha : p a = true
    · rw [List.dropWhile_cons_of_pos ha] at h
      exact dw_head t b r h
    · rw [List.dropWhile_cons_of_neg ha] at h
      cases h
      simpa using ha
/-- Is it there: at its place. -/
theorem has_at {o x : List Int} {xs : List (List Int)} (ho : right o = true) (hU : Up o xs) (hx : x.length = o.length) : xs.contains x = (decide (atN o x xs < xs.length) && sameB (xs.getD (atN o x xs) []) x) := by
  have h := List.takeWhile_append_dropWhile (p := fun y => decide (cmpA o y x < 0)) (l := xs)
  have hA : ∀ y ∈ xs.takeWhile (fun y => decide (cmpA o y x < 0)), cmpA o y x < 0 := fun y hy => by
    exact of_decide_eq_true (tw_all xs y hy)
  unfold atN
  generalize hAe : xs.takeWhile (fun y => decide (cmpA o y x < 0)) = A at h hA ⊢
  generalize hBe : xs.dropWhile (fun y => decide (cmpA o y x < 0)) = B at h
  have hself : cmpA o x x = 0 := cmpA_self o x ho hx
  cases B with
  | nil =>
    rw [List.append_nil] at h
    rw [← h, decide_eq_false (Nat.lt_irrefl _), Bool.false_and, ← Bool.not_eq_true, List.contains_iff_mem]
    intro hm
    have := hA x hm
    omega
  | cons b r =>
    have hb : ¬ (cmpA o b x < 0) := of_decide_eq_false (dw_head xs b r hBe)
    have hbl : b.length = o.length := hU.2.1 b (by rw [← h]; simp)
    have hgt : xs.getD A.length [] = b := by rw [← h]; simp [List.getD]
    have hlt : A.length < xs.length := by rw [← h]; simp
    rw [hgt, decide_eq_true hlt, Bool.true_and, sameB]
    have hpw := hU.1
    rw [← h, List.pairwise_append, List.pairwise_cons] at hpw
    rw [Bool.eq_iff_iff, List.contains_iff_mem, decide_eq_true_eq]
    constructor
    · intro hm
      rw [← h] at hm
      rcases List.mem_append.1 hm with hm | hm
      · have := hA x hm
        omega
      · rcases List.mem_cons.1 hm with e | hm
        · exact e.symm
        · have := hpw.2.1.1 x hm
          exact absurd this hb
    · rintro rfl
      rw [← h]
      simp

set_option maxRecDepth 100000 in
set_option maxHeartbeats 4000000 in
theorem rhas_any (S : Nat → Prop) (w : World) (rb : Nat) (o x : List Int) (xs : List (List Int)) (xv : Value) (h : RSetAt S w rb o xs) (ho : right o = true) (hU : Up o xs) (hx : Ints w.heap.size w xv x) :
    Calls Try.prog 28 #[.pointer (some ⟨rb, 0, none⟩), xv] w fun e w' => e = .returned (.bool (fitB o x && xs.contains x)) ∧ Below w.heap.size w w' := by
  have hat := rat_any S w rb o x xs xv h hx
  have hle := atN_le o x xs
  have HH := hide h
  have HX := hide hx
  have HU := hide (And.intro ho hU)
  obtain ⟨xa, xc, rfl, _⟩ := id hx
  clear h hx ho hU
  obtain ⟨n, hne⟩ : ∃ n, n = atN o x xs := ⟨_, rfl⟩
  rw [← hne] at hat hle
  have HN := hide hne
  clear hne
  go_enter Try.func28, Try.ntmps28
  go_wp2_with fail
  refine hat.mono ?_
  clear hat
  rintro e w1 ⟨rfl, b1⟩
  obtain ⟨ov, tv, hh, hov, ⟨f, ⟨a, cap, rfl, hc1, hc2, hf⟩, hfi⟩, _⟩ := ((unhide HH).later b1).cells
  obtain ⟨oa, oc, rfl, _⟩ := id hov
  obtain ⟨g0, g1, _⟩ := two_cells hh
  have hx1 := ((unhide HX).below b1 (Nat.le_refl _)).mono b1.size
  have HB1 := hide b1
  clear b1 hov hh
  cases hfit : fitB o x with
  | false =>
    have HFIT := hide hfit
    have hf2 : ((x.length : Int) == (o.length : Int)) = false := hfit
    clear hfit hf hfi hx1
    go_wp2_with fail
    go_ret
    exact ⟨ret_bool (by rw [unhide HFIT]; rfl), unhide HB1⟩
  | true =>
    have HFIT := hide hfit
    have hf2 : ((x.length : Int) == (o.length : Int)) = true := hfit
    have hpure := has_at (unhide HU).1 (unhide HU).2 (fitB_true.1 hfit)
    rw [← unhide HN] at hpure
    by_cases hlt : n < xs.length
    · obtain ⟨b, off, rfl, _, hc⟩ := hf n hlt
      have hy := (hfi n hlt).ints
      obtain ⟨y, hye⟩ : ∃ y, y = xs.getD n [] := ⟨_, rfl⟩
      rw [← hye] at hy hpure
      have hs := same_any w1.heap.size w1 _ _ y x (Nat.le_refl _) hy hx1
      obtain ⟨ya, yc, ey, _⟩ := id hy
      rw [ey] at hc hs
      rw [decide_eq_true hlt, Bool.true_and] at hpure
      have hg : (n : Int) < (xs.length : Int) := by omega
      have HP := hide hpure
      clear hfit hf hfi hx1 hy ey hye hpure
      go_wp2_with fail
      refine hs.mono ?_
      clear hs
      rintro e w2 ⟨rfl, b2⟩
      have HB2 := hide b2
      clear b2
      go_wp2_with fail
      go_ret
      exact ⟨ret_bool (by rw [unhide HFIT, unhide HP, Bool.true_and]), (unhide HB1).trans ((unhide HB2).mono (unhide HB1).size)⟩
    · rw [decide_eq_false hlt, Bool.false_and] at hpure
      have hg : ¬ ((n : Int) < (xs.length : Int)) := by omega
      have HP := hide hpure
      clear hfit hf hfi hx1 hpure
      go_wp2_with fail
      go_ret
      exact ⟨ret_bool (by rw [unhide HFIT, unhide HP]; rfl), unhide HB1⟩
end Go.Proofs.Ytmjlhmhkbfnccaa
