/- The document's sets wherever they lie: two cells among others. -/
import Derived.Test.YtmjlhmhkbfnccaaRefs3
import Derived.Test.YtmjlhmhkbfnccaaFroms
namespace Go.Proofs.Ytmjlhmhkbfnccaa
open Go.RowKit Go.Shelf Go.Maps

/-- Two cells that stand behind one another in a block. -/
def At2 (w : World) (rb d : Nat) (cs : Array Value) (ov tv : Value) : Prop := ∃ t, w.heap[rb]? = some (.cells cs t (0, 0)) ∧ cs[d]? = some ov ∧ cs[d + 1]? = some tv
theorem At2.lt {w : World} {rb d : Nat} {cs : Array Value} {ov tv : Value} (h : At2 w rb d cs ov tv) : rb < w.heap.size := by
  obtain ⟨t, h, _⟩ := h
  exact lt_heap h
theorem At2.same {w w' : World} {rb d : Nat} {cs : Array Value} {ov tv : Value} (h : At2 w rb d cs ov tv) (hh : w'.heap[rb]? = w.heap[rb]?) : At2 w' rb d cs ov tv := by
  obtain ⟨t, h, h2⟩ := h
  exact ⟨t, hh.trans h, h2⟩
theorem At2.later {w w' : World} {rb d : Nat} {cs : Array Value} {ov tv : Value} (h : At2 w rb d cs ov tv) (hb : Below w.heap.size w w') : At2 w' rb d cs ov tv := h.same (hb.block _ h.lt)
theorem At2.cells {w : World} {rb d : Nat} {cs : Array Value} {ov tv : Value} (h : At2 w rb d cs ov tv) :
    w.cell? ⟨rb, d, none⟩ = some ov ∧ w.cell? ⟨rb, d + 1, none⟩ = some tv ∧ w.frozen? ⟨rb, d, none⟩ = false ∧ w.frozen? ⟨rb, d + 1, none⟩ = false := by
  obtain ⟨t, h, h0, h1⟩ := h
  refine ⟨by rw [cell_at h]; exact h0, by rw [cell_at h]; exact h1, ?_, ?_⟩ <;> simp [World.frozen?, h]
theorem At2.set {w : World} {rb d : Nat} {cs : Array Value} {ov tv : Value} (h : At2 w rb d cs ov tv) (v : Value) : At2 (w.setCell ⟨rb, d + 1, none⟩ v) rb d (cs.setIfInBounds (d + 1) v) ov v := by
  obtain ⟨t, h, h0, h1⟩ := h
  have hl : d + 1 < cs.size := (Array.getElem?_eq_some_iff.1 h1).1
  refine ⟨t, set_heap h (d + 1) v, ?_, ?_⟩
  · rw [Array.getElem?_setIfInBounds, if_neg (by omega)]; exact h0
  · rw [Array.getElem?_setIfInBounds, if_pos rfl, if_pos hl]
/-- A document's set in memory. -/
structure RAt (S : Nat → Prop) (w : World) (rb d : Nat) (cs : Array Value) (o : List Int) (xs : List (List Int)) : Prop where
  cells : ∃ ov tv, At2 w rb d cs ov tv ∧ IntsS S w ov o ∧ ListAt S w tv xs ∧ (xs = [] → tv = .slice none 0 0)
  ns : ¬ S rb
theorem RAt.lt {S : Nat → Prop} {w : World} {rb d : Nat} {cs : Array Value} {o : List Int} {xs : List (List Int)} (h : RAt S w rb d cs o xs) : rb < w.heap.size := by
  obtain ⟨ov, tv, h1, _⟩ := h.cells
  exact h1.lt
theorem RAt.stays {S : Nat → Prop} {w w' : World} {rb d : Nat} {cs : Array Value} {o : List Int} {xs : List (List Int)} (h : RAt S w rb d cs o xs) (hs : Stays S w w') (hh : w'.heap[rb]? = w.heap[rb]?) : RAt S w' rb d cs o xs := by
  obtain ⟨ov, tv, h1, h2, h3, h4⟩ := h.cells
  exact ⟨⟨ov, tv, h1.same hh, h2.stays hs, h3.stays hs, h4⟩, h.ns⟩
theorem RAt.later {S : Nat → Prop} {w w' : World} {rb d : Nat} {cs : Array Value} {o : List Int} {xs : List (List Int)} (h : RAt S w rb d cs o xs) (hb : Below w.heap.size w w') : RAt S w' rb d cs o xs := h.stays (Stays.of_below hb) (hb.block _ h.lt)
theorem RAt.keeps {S O : Nat → Prop} {w w' : World} {rb d : Nat} {cs : Array Value} {o : List Int} {xs : List (List Int)} (h : RAt S w rb d cs o xs) (hk : Keeps O w w') (hn : ¬ O rb) (hO : ∀ b, b < w.heap.size → S b → ¬ O b) : RAt S w' rb d cs o xs :=
  h.stays (hk.stays hO) (by
    have hl := h.lt
    rw [hk.same rb _ (Array.getElem?_eq_getElem hl) hn]
    exact (Array.getElem?_eq_getElem hl).symm)

set_option maxRecDepth 100000 in
set_option maxHeartbeats 4000000 in
theorem rat_at (S : Nat → Prop) (w : World) (rb d : Nat) (cs : Array Value) (o x : List Int) (xs : List (List Int)) (xv : Value) (h : RAt S w rb d cs o xs) (hx : Ints w.heap.size w xv x) :
    Calls Try.prog 49 #[.pointer (some ⟨rb, d, none⟩), xv] w fun e w' => e = .returned (.int .i64 (atN o x xs : Int)) ∧ Below w.heap.size w w' := by
  obtain ⟨ov, tv, hh, hov, ⟨f, ⟨a, cap, rfl, hc1, hc2, hf⟩, hfi⟩, _⟩ := h.cells
  obtain ⟨oa, oc, rfl, _⟩ := id hov
  obtain ⟨xa, xc, rfl, _⟩ := id hx
  have hlt0 := hh.lt
  have CELL : Hid (∀ wr, Below w.heap.size w wr → wr.cell? ⟨rb, d, none⟩ = some (.slice oa o.length oc) ∧ wr.cell? ⟨rb, d + 1, none⟩ = some (.slice a xs.length cap)) := fun wr hb => by
    obtain ⟨c0, c1, _⟩ := At2.cells (hh.later hb)
    exact ⟨c0, c1⟩
  have ROW : Hid (∀ wr, Below w.heap.size w wr → ∀ j, j < xs.length → ∃ b off, a = some ⟨b, off, none⟩ ∧ wr.cell? ⟨b, off + j, none⟩ = some (f j) ∧ Ints wr.heap.size wr (f j) (xs.getD j [])) := fun wr hb j hj => by
    obtain ⟨b, off, e, _, hc⟩ := hf j hj
    obtain ⟨_, hz, _⟩ := cells_of_cell hc
    exact ⟨b, off, e, (hb.cell (p := ⟨b, off + j, none⟩) (lt_heap hz)).trans hc, ((hfi j hj).later hb).ints⟩
  have HO : Hid (∀ wr, Below w.heap.size w wr → Ints wr.heap.size wr (.slice oa o.length oc) o ∧ Ints wr.heap.size wr (.slice xa x.length xc) x) := fun wr hb => ⟨(hov.later hb).ints, (hx.below hb (Nat.le_refl _)).mono hb.size⟩
  have hle := atN_le o x xs
  have mixed : Try.prog.follows .mixedOrders = true := by kernel_rfl
  clear h hh hov hx hf hfi hlt0
  go_enter Try.func49, Try.ntmps49
  go_wp2_with fail
  go_loopw [5] (fun i wr => ARel w (atN o x xs) i wr) (fun i _ => xs.length - (intOf i).toNat)
  case atStart => exact ⟨0, Nat.zero_le _, rfl, Below.refl _ _⟩
  case round =>
    obtain ⟨k, hk, rfl, hb⟩ := hrel
    obtain ⟨g0, g1⟩ := unhide CELL wr hb
    have HB := hide hb
    by_cases hlt : k < xs.length
    · obtain ⟨b, off, rfl, hc, hy⟩ := unhide ROW wr hb k hlt
      obtain ⟨t1, t2⟩ := tw_atL (p := fun y => decide (cmpA o y x < 0)) xs k hk hlt
      obtain ⟨y, hye⟩ : ∃ y, y = xs.getD k [] := ⟨_, rfl⟩
      rw [← hye] at hy t1 t2
      obtain ⟨c, hce⟩ : ∃ c, c = cmpA o y x := ⟨_, rfl⟩
      have hcm : ∀ n, Calls Try.prog 20 #[.slice oa o.length oc, f k, .slice xa x.length xc] (wr.drewN n) fun e w' => e = .returned (.int .i64 c) ∧ ∃ m, w' = (wr.drewN n).drewN m := fun n => by
        rw [hce]
        exact rcmp_q wr.heap.size (wr.drewN n) _ _ _ o y x (Nat.le_refl _) (unhide HO wr hb).1 hy (unhide HO wr hb).2
      obtain ⟨ya, yc, ey, _⟩ := id hy
      rw [ey] at hc hcm
      have hg : (k : Int) < (xs.length : Int) := by omega
      have hd : decide ((k : Int) < (xs.length : Int)) = true := decide_eq_true hg
      have HCM := hide hcm
      rw [← hce] at t1 t2
      clear hb hye hy ey hcm hce
      by_cases hneg : c < 0
      · have HK := hide (t1 (decide_eq_true hneg))
        have hnd : decide (c < 0) = true := decide_eq_true hneg
        clear t1 t2
        go_wp2_with fail
        go_quiet (first | (go_at_call 20; exact Calls.quiet_of (unhide HCM _)))
        go_wp2_with fail
        go_roundw
        case rel => exact ⟨k + 1, unhide HK, by go_num, below_drewN (unhide HB) _⟩
        case measure => simp [intOf]; omega
      · have HK := hide (t2 (decide_eq_false hneg))
        have hnd : decide (c < 0) = false := decide_eq_false hneg
        clear t1 t2
        go_wp2_with fail
        go_quiet (first | (go_at_call 20; exact Calls.quiet_of (unhide HCM _)))
        go_wp2_with fail
        go_ret
        exact ⟨ret_int (by have := unhide HK; unfold atN; omega), below_drewN (unhide HB) _⟩
    · have hg : ¬ ((k : Int) < (xs.length : Int)) := by omega
      have hd : decide ((k : Int) < (xs.length : Int)) = false := decide_eq_false hg
      have HK : Hid (k = atN o x xs) := by show k = _; omega
      clear hb
      go_wp2_with fail
      go_quiet (fail)
      go_wp2_with fail
      go_ret
      exact ⟨ret_int (by have := unhide HK; omega), below_drewN (unhide HB) _⟩


set_option maxRecDepth 100000 in
set_option maxHeartbeats 4000000 in
theorem rhas_at (S : Nat → Prop) (w : World) (rb d : Nat) (cs : Array Value) (o x : List Int) (xs : List (List Int)) (xv : Value) (h : RAt S w rb d cs o xs) (ho : right o = true) (hU : Up o xs) (hx : Ints w.heap.size w xv x) :
    Calls Try.prog 28 #[.pointer (some ⟨rb, d, none⟩), xv] w fun e w' => e = .returned (.bool (fitB o x && xs.contains x)) ∧ Below w.heap.size w w' := by
  have hat := rat_at S w rb d cs o x xs xv h hx
  have hle := atN_le o x xs
  have HH := hide h
  have HX := hide hx
  have HU := hide (And.intro ho hU)
  obtain ⟨xa, xc, rfl, _⟩ := id hx
  clear h hx ho hU
  obtain ⟨n, hne⟩ : ∃ n, n = atN o x xs := ⟨_, rfl⟩
  rw [← hne] at hat hle
  have HN := hide hne
  clear hne
  go_enter Try.func28, Try.ntmps28
  go_wp2_with fail
  refine hat.mono ?_
  clear hat
  rintro e w1 ⟨rfl, b1⟩
  obtain ⟨ov, tv, hh, hov, ⟨f, ⟨a, cap, rfl, hc1, hc2, hf⟩, hfi⟩, _⟩ := ((unhide HH).later b1).cells
  obtain ⟨oa, oc, rfl, _⟩ := id hov
  obtain ⟨g0, g1, _⟩ := At2.cells hh
  have hx1 := ((unhide HX).below b1 (Nat.le_refl _)).mono b1.size
  have HB1 := hide b1
  clear b1 hov hh
  cases hfit : fitB o x with
  | false =>
    have HFIT := hide hfit
    have hf2 : ((x.length : Int) == (o.length : Int)) = false := hfit
    clear hfit hf hfi hx1
    go_wp2_with fail
    go_ret
    exact ⟨ret_bool (by rw [unhide HFIT]; rfl), unhide HB1⟩
  | true =>
    have HFIT := hide hfit
    have hf2 : ((x.length : Int) == (o.length : Int)) = true := hfit
    have hpure := has_at (unhide HU).1 (unhide HU).2 (fitB_true.1 hfit)
    rw [← unhide HN] at hpure
    by_cases hlt : n < xs.length
    · obtain ⟨b, off, rfl, _, hc⟩ := hf n hlt
      have hy := (hfi n hlt).ints
      obtain ⟨y, hye⟩ : ∃ y, y = xs.getD n [] := ⟨_, rfl⟩
      rw [← hye] at hy hpure
      have hs := same_any w1.heap.size w1 _ _ y x (Nat.le_refl _) hy hx1
      obtain ⟨ya, yc, ey, _⟩ := id hy
      rw [ey] at hc hs
      rw [decide_eq_true hlt, Bool.true_and] at hpure
      have hg : (n : Int) < (xs.length : Int) := by omega
      have HP := hide hpure
      clear hfit hf hfi hx1 hy ey hye hpure
      go_wp2_with fail
      refine hs.mono ?_
      clear hs
      rintro e w2 ⟨rfl, b2⟩
      have HB2 := hide b2
      clear b2
      go_wp2_with fail
      go_ret
      exact ⟨ret_bool (by rw [unhide HFIT, unhide HP, Bool.true_and]), (unhide HB1).trans ((unhide HB2).mono (unhide HB1).size)⟩
    · rw [decide_eq_false hlt, Bool.false_and] at hpure
      have hg : ¬ ((n : Int) < (xs.length : Int)) := by omega
      have HP := hide hpure
      clear hfit hf hfi hx1 hpure
      go_wp2_with fail
      go_ret
      exact ⟨ret_bool (by rw [unhide HFIT, unhide HP]; rfl), unhide HB1⟩
end Go.Proofs.Ytmjlhmhkbfnccaa
