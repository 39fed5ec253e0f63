/- The document's From. -/
import Derived.Test.YtmjlhmhkbfnccaaRefsE
namespace Go.Proofs.Ytmjlhmhkbfnccaa
open Go.RowKit Go.Shelf Go.Maps

/-- From its place on are those that are not below it. -/
theorem from_drop {o x : List Int} {xs : List (List Int)} (ho : right o = true) (hU : Up o xs) (hx : fitB o x = true) : fromL o x xs = xs.drop (atN o x xs) := by
  rw [fromL, if_pos hx]
  have h := List.takeWhile_append_dropWhile (p := fun y => decide (cmpA o y x < 0)) (l := xs)
  have hA : ∀ y ∈ xs.takeWhile (fun y => decide (cmpA o y x < 0)), cmpA o y x < 0 := fun y hy => of_decide_eq_true (tw_all xs y hy)
  have hxl := fitB_true.1 hx
  unfold atN
  generalize hAe : xs.takeWhile (fun y => decide (cmpA o y x < 0)) = A at h hA ⊢
  generalize hBe : xs.dropWhile (fun y => decide (cmpA o y x < 0)) = B at h
  have hB : ∀ y ∈ B, ¬ cmpA o y x < 0 := fun y hy => by
    cases B with
    | nil => cases hy
    | cons b r =>
      have hb : ¬ (cmpA o b x < 0) := of_decide_eq_false (dw_head xs b r hBe)
      have hpw := hU.1
      rw [← h, List.pairwise_append, List.pairwise_cons] at hpw
      rcases List.mem_cons.1 hy with rfl | hm
      · exact hb
      · intro hlt
        have h1 := hpw.2.1.1 y hm
        have l1 : b.length = o.length := hU.2.1 b (by rw [← h]; simp)
        have l2 : y.length = o.length := hU.2.1 y (by rw [← h]; simp [hm])
        exact hb (cmpA_lt_le ho l1 l2 hxl h1 (by omega))
  rw [← h, List.filter_append, List.drop_left]
  have e1 : A.filter (fun y => decide (0 ≤ cmpA o y x)) = [] := by
    rw [List.filter_eq_nil_iff]
    intro y hy
    have := hA y hy
    simp; omega
  have e2 : B.filter (fun y => decide (0 ≤ cmpA o y x)) = B := by
    rw [List.filter_eq_self]
    intro y hy
    have := hB y hy
    simp; omega
  rw [e1, e2, List.nil_append]
theorem ListAt.drop {B : Nat → Prop} {w : World} {b off cap : Nat} {xs : List (List Int)} (h : ListAt B w (.slice (some ⟨b, off, none⟩) xs.length cap) xs) {k : Nat} (hk : k ≤ xs.length) (ad : Option Addr) (ha : k < xs.length → ad = some ⟨b, off + k, none⟩) : ListAt B w (.slice ad (xs.length - k) (cap - k)) (xs.drop k) := by
  obtain ⟨f, ⟨a2, cap2, e, h2, h3, h4⟩, h5⟩ := h
  simp only [Value.slice.injEq] at e
  obtain ⟨e1, _, e3⟩ := e
  subst e3
  refine ⟨fun j => f (k + j), ⟨ad, cap - k, by simp, by simp; omega, by omega, fun j hj => ?_⟩, fun j hj => ?_⟩
  · simp only [List.length_drop] at hj
    obtain ⟨b', off', e', hb', hc⟩ := h4 (k + j) (by omega)
    rw [← e1] at e'
    cases e'
    exact ⟨b, off + k, ha (by omega), hb', by rw [Nat.add_assoc]; exact hc⟩
  · simp only [List.length_drop] at hj
    have := h5 (k + j) (by omega)
    have e2 : (xs.drop k).getD j [] = xs.getD (k + j) [] := by simp [List.getD]
    rw [e2]
    exact this

set_option maxRecDepth 100000 in
set_option maxHeartbeats 4000000 in
theorem rfrom_at (S : Nat → Prop) (w : World) (rb d : Nat) (cs : Array Value) (o x : List Int) (xs : List (List Int)) (xv : Value) (h : RAt S w rb d cs o xs) (ho : right o = true) (hU : Up o xs) (hx : Ints w.heap.size w xv x) :
    Calls Try.prog 30 #[.pointer (some ⟨rb, d, none⟩), xv] w fun e w' => ∃ rv, e = .returned rv ∧ ListAt (fun _ => True) w' rv (fromL o x xs) ∧ Below w.heap.size w w' := by
  have hat := fun m => rat_at S (w.drewN m) rb d cs o x xs xv (h.later (below_drewN (Below.refl _ _) m)) hx
  obtain ⟨ov, tv, hh, hov, hL, hnil⟩ := h.cells
  obtain ⟨oa, oc, rfl, _⟩ := id hov
  obtain ⟨xa, xc, rfl, _⟩ := id hx
  obtain ⟨_, ⟨ta, tc, etv, htc, htc2, hrw⟩, _⟩ := id hL
  subst etv
  obtain ⟨c0, c1, _⟩ := At2.cells hh
  have hlt0 := hh.lt
  have hle := atN_le o x xs
  cases hf : fitB o x with
  | false =>
    have hne : ((x.length : Int) != (o.length : Int)) = true := by
      show (!((x.length : Int) == (o.length : Int))) = true
      rw [show ((x.length : Int) == (o.length : Int)) = false from hf]; rfl
    have HF := hide hf
    clear hf hat hL hrw hov hx hh h
    go_enter Try.func30, Try.ntmps30
    go_wp2_with fail
    go_ret
    exact ⟨_, rfl, by rw [fromL, if_neg (by rw [unhide HF]; simp)]; exact ⟨fun _ => undef, Row.nil _ _ _, fun j hj => (by cases hj)⟩, Below.refl _ _⟩
  | true =>
    have hne : ((x.length : Int) != (o.length : Int)) = false := by
      show (!((x.length : Int) == (o.length : Int))) = false
      rw [show ((x.length : Int) == (o.length : Int)) = true from hf]; rfl
    have HE := hide (from_drop ho hU hf)
    have mixed : Try.prog.follows .mixedOrders = true := by kernel_rfl
    have hat0 := (hat 1).mono (fun e w' hh => (⟨hh.1, (below_drewN (Below.refl _ w) 1).trans hh.2⟩ : e = .returned (.int .i64 (atN o x xs : Int)) ∧ Below w.heap.size w w'))
    have hat1 : Calls Try.prog 49 #[.pointer (some ⟨rb, d, none⟩), .slice xa x.length xc] w.drew fun e w' => e = .returned (.int .i64 (atN o x xs : Int)) ∧ Below w.heap.size w w' := hat0
    generalize atN o x xs = n at hat1 hle HE
    have HL := hide hL
    by_cases hn : xs = []
    · have etv := hnil hn
      subst hn
      simp only [Value.slice.injEq] at etv
      obtain ⟨ea, _, ec⟩ := etv
      subst ea ec
      have hn0 : n = 0 := by simpa using hle
      subst hn0
      clear hat hat0 hf hL hrw hov hx hh h hnil
      go_enter Try.func30, Try.ntmps30
      go_wp2_with fail
      go_region_with (go_at_call 49; refine hat1.mono ?_; clear hat1; rintro e w4 ⟨rfl, hb4⟩; have c4 := (hb4.cell (p := ⟨rb, d + 1, none⟩) hlt0).trans c1; have HB4 := hide hb4; clear hb4)
      all_goals
        go_wp2_with fail
        go_ret
        exact ⟨_, rfl, by rw [unhide HE]; exact ⟨fun _ => undef, Row.nil _ _ _, fun j hj => (by cases hj)⟩, unhide HB4⟩
    · have hlen : 0 < xs.length := List.length_pos_iff.2 hn
      obtain ⟨b, off, ea, _, _⟩ := hrw 0 hlen
      subst ea
      have HR : Hid (∀ wr ad, Below w.heap.size w wr → (n < xs.length → ad = some ⟨b, off + n, none⟩) → ListAt (fun _ => True) wr (.slice ad (xs.length - n) (tc - n)) (fromL o x xs)) := fun wr ad hb ha => by
        rw [unhide HE]
        exact ((hL.later hb).drop hle ad ha).mono (fun _ _ _ => trivial)
      clear hat hat0 hf hL hrw hov hx hh h hnil hn
      by_cases hcn : n < tc
      · have hcn2 : ¬ (tc - n = 0) := by omega
        have hcn3 : ¬ (tc = n) := by omega
        go_enter Try.func30, Try.ntmps30
        go_wp2_with fail
        go_region_with (go_at_call 49; refine hat1.mono ?_; clear hat1; rintro e w4 ⟨rfl, hb4⟩; have c4 := (hb4.cell (p := ⟨rb, d + 1, none⟩) hlt0).trans c1; have HB4 := hide hb4; clear hb4)
        all_goals
          go_wp2_with fail
          go_ret
          exact ⟨_, rfl, unhide HR _ _ (unhide HB4) (fun _ => rfl), unhide HB4⟩
      · have hcn2 : tc - n = 0 := by omega
        have hcn3 : tc ≤ n := by omega
        have HR2 : Hid (∀ wr, Below w.heap.size w wr → ListAt (fun _ => True) wr (.slice (some ⟨b, off, none⟩) (xs.length - n) 0) (fromL o x xs)) := fun wr hb => by
          have := unhide HR wr (some ⟨b, off, none⟩) hb (fun h => (by omega))
          rw [hcn2] at this
          exact this
        go_enter Try.func30, Try.ntmps30
        go_wp2_with fail
        go_region_with (go_at_call 49; refine hat1.mono ?_; clear hat1; rintro e w4 ⟨rfl, hb4⟩; have c4 := (hb4.cell (p := ⟨rb, d + 1, none⟩) hlt0).trans c1; have HB4 := hide hb4; clear hb4)
        all_goals
          go_wp2_with fail
          go_ret
          exact ⟨_, rfl, unhide HR2 _ (unhide HB4), unhide HB4⟩
end Go.Proofs.Ytmjlhmhkbfnccaa
