/- The document's sets wherever they lie: two cells among others. The document's Insert, wherever the set lies. -/
import Derived.Test.YtmjlhmhkbfnccaaRefC
import Derived.Test.YtmjlhmhkbfnccaaFroms
namespace Go.Proofs.Ytmjlhmhkbfnccaa
open Go.RowKit Go.Shelf Go.Maps

/-- Two cells that stand behind one another in a block. -/
def At2 (w : World) (rb d : Nat) (cs : Array Value) (ov tv : Value) : Prop := ∃ t, w.heap[rb]? = some (.cells cs t (0, 0)) ∧ cs[d]? = some ov ∧ cs[d + 1]? = some tv
theorem At2.lt {w : World} {rb d : Nat} {cs : Array Value} {ov tv : Value} (h : At2 w rb d cs ov tv) : rb < w.heap.size := by
  obtain ⟨t, h, _⟩ := h
  exact lt_heap h
theorem At2.same {w w' : World} {rb d : Nat} {cs : Array Value} {ov tv : Value} (h : At2 w rb d cs ov tv) (hh : w'.heap[rb]? = w.heap[rb]?) : At2 w' rb d cs ov tv := by
  obtain ⟨t, h, h2⟩ := h
  exact ⟨t, hh.trans h, h2⟩
theorem At2.later {w w' : World} {rb d : Nat} {cs : Array Value} {ov tv : Value} (h : At2 w rb d cs ov tv) (hb : Below w.heap.size w w') : At2 w' rb d cs ov tv := h.same (hb.block _ h.lt)
theorem At2.cells {w : World} {rb d : Nat} {cs : Array Value} {ov tv : Value} (h : At2 w rb d cs ov tv) :
    w.cell? ⟨rb, d, none⟩ = some ov ∧ w.cell? ⟨rb, d + 1, none⟩ = some tv ∧ w.frozen? ⟨rb, d, none⟩ = false ∧ w.frozen? ⟨rb, d + 1, none⟩ = false := by
  obtain ⟨t, h, h0, h1⟩ := h
  refine ⟨by rw [cell_at h]; exact h0, by rw [cell_at h]; exact h1, ?_, ?_⟩ <;> simp [World.frozen?, h]
theorem At2.set {w : World} {rb d : Nat} {cs : Array Value} {ov tv : Value} (h : At2 w rb d cs ov tv) (v : Value) : At2 (w.setCell ⟨rb, d + 1, none⟩ v) rb d (cs.setIfInBounds (d + 1) v) ov v := by
  obtain ⟨t, h, h0, h1⟩ := h
  have hl : d + 1 < cs.size := (Array.getElem?_eq_some_iff.1 h1).1
  refine ⟨t, set_heap h (d + 1) v, ?_, ?_⟩
  · rw [Array.getElem?_setIfInBounds, if_neg (by omega)]; exact h0
  · rw [Array.getElem?_setIfInBounds, if_pos rfl, if_pos hl]
/-- A document's set in memory. -/
structure RAt (S : Nat → Prop) (w : World) (rb d : Nat) (cs : Array Value) (o : List Int) (xs : List (List Int)) : Prop where
  cells : ∃ ov tv, At2 w rb d cs ov tv ∧ IntsS S w ov o ∧ ListAt S w tv xs ∧ (xs = [] → tv = .slice none 0 0)
  ns : ¬ S rb
theorem RAt.lt {S : Nat → Prop} {w : World} {rb d : Nat} {cs : Array Value} {o : List Int} {xs : List (List Int)} (h : RAt S w rb d cs o xs) : rb < w.heap.size := by
  obtain ⟨ov, tv, h1, _⟩ := h.cells
  exact h1.lt
theorem RAt.stays {S : Nat → Prop} {w w' : World} {rb d : Nat} {cs : Array Value} {o : List Int} {xs : List (List Int)} (h : RAt S w rb d cs o xs) (hs : Stays S w w') (hh : w'.heap[rb]? = w.heap[rb]?) : RAt S w' rb d cs o xs := by
  obtain ⟨ov, tv, h1, h2, h3, h4⟩ := h.cells
  exact ⟨⟨ov, tv, h1.same hh, h2.stays hs, h3.stays hs, h4⟩, h.ns⟩
theorem RAt.later {S : Nat → Prop} {w w' : World} {rb d : Nat} {cs : Array Value} {o : List Int} {xs : List (List Int)} (h : RAt S w rb d cs o xs) (hb : Below w.heap.size w w') : RAt S w' rb d cs o xs := h.stays (Stays.of_below hb) (hb.block _ h.lt)
theorem RAt.keeps {S O : Nat → Prop} {w w' : World} {rb d : Nat} {cs : Array Value} {o : List Int} {xs : List (List Int)} (h : RAt S w rb d cs o xs) (hk : Keeps O w w') (hn : ¬ O rb) (hO : ∀ b, b < w.heap.size → S b → ¬ O b) : RAt S w' rb d cs o xs :=
  h.stays (hk.stays hO) (by
    have hl := h.lt
    rw [hk.same rb _ (Array.getElem?_eq_getElem hl) hn]
    exact (Array.getElem?_eq_getElem hl).symm)

set_option maxRecDepth 100000 in
set_option maxHeartbeats 4000000 in
theorem rat_at (S : Nat → Prop) (w : World) (rb d : Nat) (cs : Array Value) (o x : List Int) (xs : List (List Int)) (xv : Value) (h : RAt S w rb d cs o xs) (hx : Ints w.heap.size w xv x) :
    Calls Try.prog 49 #[.pointer (some ⟨rb, d, none⟩), xv] w fun e w' => e = .returned (.int .i64 (atN o x xs : Int)) ∧ Below w.heap.size w w' := by
  obtain ⟨ov, tv, hh, hov, ⟨f, ⟨a, cap, rfl, hc1, hc2, hf⟩, hfi⟩, _⟩ := h.cells
  obtain ⟨oa, oc, rfl, _⟩ := id hov
  obtain ⟨xa, xc, rfl, _⟩ := id hx
  have hlt0 := hh.lt
  have CELL : Hid (∀ wr, Below w.heap.size w wr → wr.cell? ⟨rb, d, none⟩ = some (.slice oa o.length oc) ∧ wr.cell? ⟨rb, d + 1, none⟩ = some (.slice a xs.length cap)) := fun wr hb => by
    obtain ⟨c0, c1, _⟩ := At2.cells (hh.later hb)
    exact ⟨c0, c1⟩
  have ROW : Hid (∀ wr, Below w.heap.size w wr → ∀ j, j < xs.length → ∃ b off, a = some ⟨b, off, none⟩ ∧ wr.cell? ⟨b, off + j, none⟩ = some (f j) ∧ Ints wr.heap.size wr (f j) (xs.getD j [])) := fun wr hb j hj => by
    obtain ⟨b, off, e, _, hc⟩ := hf j hj
    obtain ⟨_, hz, _⟩ := cells_of_cell hc
    exact ⟨b, off, e, (hb.cell (p := ⟨b, off + j, none⟩) (lt_heap hz)).trans hc, ((hfi j hj).later hb).ints⟩
  have HO : Hid (∀ wr, Below w.heap.size w wr → Ints wr.heap.size wr (.slice oa o.length oc) o ∧ Ints wr.heap.size wr (.slice xa x.length xc) x) := fun wr hb => ⟨(hov.later hb).ints, (hx.below hb (Nat.le_refl _)).mono hb.size⟩
  have hle := atN_le o x xs
  have mixed : Try.prog.follows .mixedOrders = true := by kernel_rfl
  clear h hh hov hx hf hfi hlt0
  go_enter Try.func49, Try.ntmps49
  go_wp2_with fail
  go_loopw [5] (fun i wr => ARel w (atN o x xs) i wr) (fun i _ => xs.length - (intOf i).toNat)
  case atStart => exact ⟨0, Nat.zero_le _, rfl, Below.refl _ _⟩
  case round =>
    obtain ⟨k, hk, rfl, hb⟩ := hrel
    obtain ⟨g0, g1⟩ := unhide CELL wr hb
    have HB := hide hb
    by_cases hlt : k < xs.length
    · obtain ⟨b, off, rfl, hc, hy⟩ := unhide ROW wr hb k hlt
      obtain ⟨t1, t2⟩ := tw_atL (p := fun y => decide (cmpA o y x < 0)) xs k hk hlt
      obtain ⟨y, hye⟩ : ∃ y, y = xs.getD k [] := ⟨_, rfl⟩
      rw [← hye] at hy t1 t2
      obtain ⟨c, hce⟩ : ∃ c, c = cmpA o y x := ⟨_, rfl⟩
      have hcm : ∀ n, Calls Try.prog 20 #[.slice oa o.length oc, f k, .slice xa x.length xc] (wr.drewN n) fun e w' => e = .returned (.int .i64 c) ∧ ∃ m, w' = (wr.drewN n).drewN m := fun n => by
        rw [hce]
        exact rcmp_q wr.heap.size (wr.drewN n) _ _ _ o y x (Nat.le_refl _) (unhide HO wr hb).1 hy (unhide HO wr hb).2
      obtain ⟨ya, yc, ey, _⟩ := id hy
      rw [ey] at hc hcm
      have hg : (k : Int) < (xs.length : Int) := by omega
      have hd : decide ((k : Int) < (xs.length : Int)) = true := decide_eq_true hg
      have HCM := hide hcm
      rw [← hce] at t1 t2
      clear hb hye hy ey hcm hce
      by_cases hneg : c < 0
      · have HK := hide (t1 (decide_eq_true hneg))
        have hnd : decide (c < 0) = true := decide_eq_true hneg
        clear t1 t2
        go_wp2_with fail
        go_quiet (first | (go_at_call 20; exact Calls.quiet_of (unhide HCM _)))
        go_wp2_with fail
        go_roundw
        case rel => exact ⟨k + 1, unhide HK, by go_num, below_drewN (unhide HB) _⟩
        case measure => simp [intOf]; omega
      · have HK := hide (t2 (decide_eq_false hneg))
        have hnd : decide (c < 0) = false := decide_eq_false hneg
        clear t1 t2
        go_wp2_with fail
        go_quiet (first | (go_at_call 20; exact Calls.quiet_of (unhide HCM _)))
        go_wp2_with fail
        go_ret
        exact ⟨ret_int (by have := unhide HK; unfold atN; omega), below_drewN (unhide HB) _⟩
    · have hg : ¬ ((k : Int) < (xs.length : Int)) := by omega
      have hd : decide ((k : Int) < (xs.length : Int)) = false := decide_eq_false hg
      have HK : Hid (k = atN o x xs) := by show k = _; omega
      clear hb
      go_wp2_with fail
      go_quiet (fail)
      go_wp2_with fail
      go_ret
      exact ⟨ret_int (by have := unhide HK; omega), below_drewN (unhide HB) _⟩


set_option maxRecDepth 100000 in
set_option maxHeartbeats 4000000 in
theorem rhas_at (S : Nat → Prop) (w : World) (rb d : Nat) (cs : Array Value) (o x : List Int) (xs : List (List Int)) (xv : Value) (h : RAt S w rb d cs o xs) (ho : right o = true) (hU : Up o xs) (hx : Ints w.heap.size w xv x) :
    Calls Try.prog 28 #[.pointer (some ⟨rb, d, none⟩), xv] w fun e w' => e = .returned (.bool (fitB o x && xs.contains x)) ∧ Below w.heap.size w w' := by
  have hat := rat_at S w rb d cs o x xs xv h hx
  have hle := atN_le o x xs
  have HH := hide h
  have HX := hide hx
  have HU := hide (And.intro ho hU)
  obtain ⟨xa, xc, rfl, _⟩ := id hx
  clear h hx ho hU
  obtain ⟨n, hne⟩ : ∃ n, n = atN o x xs := ⟨_, rfl⟩
  rw [← hne] at hat hle
  have HN := hide hne
  clear hne
  go_enter Try.func28, Try.ntmps28
  go_wp2_with fail
  refine hat.mono ?_
  clear hat
  rintro e w1 ⟨rfl, b1⟩
  obtain ⟨ov, tv, hh, hov, ⟨f, ⟨a, cap, rfl, hc1, hc2, hf⟩, hfi⟩, _⟩ := ((unhide HH).later b1).cells
  obtain ⟨oa, oc, rfl, _⟩ := id hov
  obtain ⟨g0, g1, _⟩ := At2.cells hh
  have hx1 := ((unhide HX).below b1 (Nat.le_refl _)).mono b1.size
  have HB1 := hide b1
  clear b1 hov hh
  cases hfit : fitB o x with
  | false =>
    have HFIT := hide hfit
    have hf2 : ((x.length : Int) == (o.length : Int)) = false := hfit
    clear hfit hf hfi hx1
    go_wp2_with fail
    go_ret
    exact ⟨ret_bool (by rw [unhide HFIT]; rfl), unhide HB1⟩
  | true =>
    have HFIT := hide hfit
    have hf2 : ((x.length : Int) == (o.length : Int)) = true := hfit
    have hpure := has_at (unhide HU).1 (unhide HU).2 (fitB_true.1 hfit)
    rw [← unhide HN] at hpure
    by_cases hlt : n < xs.length
    · obtain ⟨b, off, rfl, _, hc⟩ := hf n hlt
      have hy := (hfi n hlt).ints
      obtain ⟨y, hye⟩ : ∃ y, y = xs.getD n [] := ⟨_, rfl⟩
      rw [← hye] at hy hpure
      have hs := same_any w1.heap.size w1 _ _ y x (Nat.le_refl _) hy hx1
      obtain ⟨ya, yc, ey, _⟩ := id hy
      rw [ey] at hc hs
      rw [decide_eq_true hlt, Bool.true_and] at hpure
      have hg : (n : Int) < (xs.length : Int) := by omega
      have HP := hide hpure
      clear hfit hf hfi hx1 hy ey hye hpure
      go_wp2_with fail
      refine hs.mono ?_
      clear hs
      rintro e w2 ⟨rfl, b2⟩
      have HB2 := hide b2
      clear b2
      go_wp2_with fail
      go_ret
      exact ⟨ret_bool (by rw [unhide HFIT, unhide HP, Bool.true_and]), (unhide HB1).trans ((unhide HB2).mono (unhide HB1).size)⟩
    · rw [decide_eq_false hlt, Bool.false_and] at hpure
      have hg : ¬ ((n : Int) < (xs.length : Int)) := by omega
      have HP := hide hpure
      clear hfit hf hfi hx1 hpure
      go_wp2_with fail
      go_ret
      exact ⟨ret_bool (by rw [unhide HFIT, unhide HP]; rfl), unhide HB1⟩
end Go.Proofs.Ytmjlhmhkbfnccaa

namespace Go.Proofs.Ytmjlhmhkbfnccaa
open Go.RowKit Go.Shelf Go.Maps

theorem RAt.keepV {S : Nat → Prop} {w w' : World} {rb d : Nat} {cs : Array Value} {o : List Int} {xs : List (List Int)} (h : RAt S w rb d cs o xs) (hb : Below w.heap.size w w') : ∃ v, RAt S w' rb d (cs.setIfInBounds (d + 1) v) o xs := by
  have h2 := h.later hb
  obtain ⟨ov, tv, ⟨t, _, h0, h1⟩, _⟩ := h2.cells
  refine ⟨tv, ?_⟩
  have e : cs.setIfInBounds (d + 1) tv = cs := by
    apply Array.ext_getElem?
    intro i
    rw [Array.getElem?_setIfInBounds]
    split
    · rename_i he
      subst he
      rw [h1]
      rw [if_pos (Array.getElem?_eq_some_iff.1 h1).1]
    · rfl
  rw [e]
  exact h2
theorem rins_doneD {S : Nat → Prop} {w w4 w9 : World} {rb d : Nat} {cs : Array Value} {o x : List Int} {xs : List (List Int)} {f : Nat → Value} {r v3 : Value} (h : RAt S w rb d cs o xs) (hf : ∀ j, j < xs.length → IntsS S w (f j) (xs.getD j [])) (b04 : Below w.heap.size w w4) (b49 : Below w4.heap.size w4 w9) (hnew : NewIn S w)
    (hr : IntsS (fun b => w4.heap.size ≤ b) w9 r x) (hown : w9.ownsRow w4.heap.size 22 1 v3 (xs.length + 1) (valsR f (atN o x xs) (xs.length - atN o x xs) r)) :
    RAt S (w9.setCell ⟨rb, d + 1, none⟩ v3) rb d (cs.setIfInBounds (d + 1) v3) o (insX o x xs) ∧ Keeps (fun b => b = rb) w (w9.setCell ⟨rb, d + 1, none⟩ v3) := by
  obtain ⟨ov, tv, hh, hov, _, _⟩ := h.cells
  have hle := atN_le o x xs
  have hs04 := b04.size
  have b09 : Below w.heap.size w w9 := b04.trans (b49.mono hs04)
  have hK : Keeps (fun b => b = rb) w9 (w9.setCell ⟨rb, d + 1, none⟩ v3) := (Keeps.refl (fun b => b = rb) w9).setCell ⟨rb, d + 1, none⟩ rfl _
  have hst : Stays S w9 (w9.setCell ⟨rb, d + 1, none⟩ v3) := hK.stays (fun b _ hs e => h.ns (e ▸ hs))
  have hW := At2.set (hh.later b09) v3
  refine ⟨⟨⟨ov, v3, hW, (hov.later b09).stays hst, ⟨fun j => (valsR f (atN o x xs) (xs.length - atN o x xs) r).getD j undef, ?_, fun j hj => ?_⟩, fun e => ?_⟩, h.ns⟩, (Keeps.of_below b09).trans hK (fun _ _ e => e)⟩
  · rw [insX_length]
    have hl : (valsR f (atN o x xs) (xs.length - atN o x xs) r).length = xs.length + 1 := by have := hown.1; omega
    refine (Row.mono (Row.of_own (e := 22) (base := w4.heap.size) ?_) (fun b _ hb => hnew b (by omega))).stays hst
    rw [← hl, range_getD, hl]
    exact hown
  · rw [insX_length] at hj
    show IntsS S _ ((valsR f (atN o x xs) (xs.length - atN o x xs) r).getD j undef) _
    rw [valsR_at _ _ _ _ _ (by omega), insX_at]
    by_cases h1 : j < atN o x xs
    · rw [if_pos h1, if_pos h1]
      exact ((hf j (by omega)).later b09).stays hst
    · rw [if_neg h1, if_neg h1]
      by_cases h2 : j = atN o x xs
      · rw [if_pos h2, if_pos h2]
        exact (hr.mono (fun b _ hb => hnew b (by omega))).stays hst
      · rw [if_neg h2, if_neg h2]
        exact ((hf (j - 1) (by omega)).later b09).stays hst
  · have := congrArg List.length e
    rw [insX_length] at this
    simp at this

set_option maxRecDepth 100000 in
set_option maxHeartbeats 4000000 in
theorem rinsert_at (S : Nat → Prop) (w : World) (rb d : Nat) (cs : Array Value) (o x : List Int) (xs : List (List Int)) (xv : Value) (h : RAt S w rb d cs o xs) (ho : right o = true) (hU : Up o xs) (hx : Ints w.heap.size w xv x) (hnew : NewIn S w) :
    Calls Try.prog 26 #[.pointer (some ⟨rb, d, none⟩), xv] w fun e w' => e = .returned (.tuple #[.bool (insBL o x xs), .int .i64 (insEL o x xs)]) ∧ (∃ v, RAt S w' rb d (cs.setIfInBounds (d + 1) v) o (insTo o x xs)) ∧ Keeps (fun b => b = rb) w w' := by
  have hhas := rhas_at S w rb d cs o x xs xv h ho hU hx
  obtain ⟨ov, tv, hh, hov, hL, hnil⟩ := h.cells
  obtain ⟨oa, oc, rfl, _⟩ := id hov
  obtain ⟨xa, xc, rfl, _⟩ := id hx
  obtain ⟨f, ⟨a, cap, etv, hc1, hc2, hf⟩, hfi⟩ := id hL
  subst etv
  obtain ⟨c0, c1, _⟩ := At2.cells hh
  have HH := hide h
  have HX := hide hx
  have HU := hide (And.intro ho hU)
  have HNEW := hide hnew
  have HF := hide (And.intro hf hfi)
  have HHH := hide hh
  have h1024 := hU.2.2.1
  have hlt0 := hh.lt
  clear h hx ho hU hnew hf hfi hov hL hh
  cases hfit : fitB o x with
  | false =>
    have hne : ((x.length : Int) != (o.length : Int)) = true := by show (!((x.length : Int) == (o.length : Int))) = true; rw [show ((x.length : Int) == (o.length : Int)) = false from hfit]; rfl
    have HFIT := hide hfit
    clear hfit hhas
    go_enter Try.func26, Try.ntmps26
    go_wp2_with fail
    go_ret2
    have e1 : insBL o x xs = false := by simp [insBL, unhide HFIT]
    exact ⟨tupBE e1.symm (by simp [insEL, unhide HFIT]), by rw [insTo, if_neg (by simp [e1])]; exact (unhide HH).keepV (Below.refl _ _), Keeps.refl (fun b => b = rb) w⟩
  | true =>
  have hne : ((x.length : Int) != (o.length : Int)) = false := by show (!((x.length : Int) == (o.length : Int))) = false; rw [show ((x.length : Int) == (o.length : Int)) = true from hfit]; rfl
  have HFIT := hide hfit
  rw [hfit, Bool.true_and] at hhas
  clear hfit
  cases hcon : xs.contains x with
  | true =>
    rw [hcon] at hhas
    have HCON := hide hcon
    clear hcon
    go_enter Try.func26, Try.ntmps26
    go_wp2_with fail
    refine hhas.mono ?_
    clear hhas
    rintro e w1 ⟨rfl, b1⟩
    have HB1 := hide b1
    clear b1
    go_wp2_with fail
    go_ret2
    have e1 : insBL o x xs = false := by rw [insBL, unhide HCON]; simp
    exact ⟨tupBE e1.symm (by rw [insEL, if_pos (unhide HFIT), if_pos (unhide HCON)]), by rw [insTo, if_neg (by simp [e1])]; exact (unhide HH).keepV (unhide HB1), Keeps.of_below (unhide HB1)⟩
  | false =>
  rw [hcon] at hhas
  have HCON := hide hcon
  clear hcon
  by_cases hfull : xs.length < 1024
  case neg =>
    have hg : (1024 : Int) ≤ (xs.length : Int) := by omega
    have HFULL := hide hfull
    clear hfull
    go_enter Try.func26, Try.ntmps26
    go_wp2_with fail
    refine hhas.mono ?_
    clear hhas
    rintro e w1 ⟨rfl, b1⟩
    have g1 := (b1.cell (p := ⟨rb, d + 1, none⟩) hlt0).trans c1
    have HB1 := hide b1
    clear b1
    go_wp2_with fail
    go_ret2
    have e1 : insBL o x xs = false := by rw [insBL, decide_eq_false (unhide HFULL)]; simp
    exact ⟨tupBE e1.symm (by rw [insEL, if_pos (unhide HFIT), if_neg (by rw [unhide HCON]; simp), if_neg (unhide HFULL)]), by rw [insTo, if_neg (by simp [e1])]; exact (unhide HH).keepV (unhide HB1), Keeps.of_below (unhide HB1)⟩
  case pos =>
  have hg : ¬ ((1024 : Int) ≤ (xs.length : Int)) := by omega
  have e1 : insBL o x xs = true := by rw [insBL, unhide HFIT, unhide HCON, decide_eq_true hfull]; rfl
  have e2 : insEL o x xs = 0 := by rw [insEL, if_pos (unhide HFIT), if_neg (by rw [unhide HCON]; simp), if_pos hfull]
  have e3 : insTo o x xs = insX o x xs := by rw [insTo, if_pos e1]
  have HE := hide (And.intro e1 (And.intro e2 e3))
  clear e1 e2 e3
  go_enter Try.func26, Try.ntmps26
  go_wp2_with fail
  refine hhas.mono ?_
  clear hhas
  rintro e w1 ⟨rfl, b1⟩
  have g1 := (b1.cell (p := ⟨rb, d + 1, none⟩) hlt0).trans c1
  have hat := rat_at S w1 rb d cs o x xs _ ((unhide HH).later b1) (((unhide HX).below b1 (Nat.le_refl _)).mono b1.size)
  have HB1 := hide b1
  clear b1
  have hnl := atN_le o x xs
  obtain ⟨n, hne'⟩ : ∃ n, n = atN o x xs := ⟨_, rfl⟩
  rw [← hne'] at hat hnl
  have HN := hide hne'
  clear hne'
  go_wp2_with fail
  refine hat.mono ?_
  clear hat
  rintro e w4 ⟨rfl, b4⟩
  have b04 := (unhide HB1).trans (b4.mono (unhide HB1).size)
  have hs04 := b04.size
  have g4 := (b04.cell (p := ⟨rb, d + 1, none⟩) hlt0).trans c1
  obtain ⟨q0, q1, _, qf⟩ := At2.cells ((unhide HHH).later b04)
  have hwid : x.length * 8 ≤ 140737488355328 := by have := fitB_true.1 (unhide HFIT); have := (right_in (unhide HU).1).1; omega
  have hx4 := ((unhide HX).below b04 (Nat.le_refl _)).mono hs04
  have HB04 := hide b04
  obtain ⟨i0, hi0, hz0, hz1, hz2⟩ := infoT
  have ht : Try.prog.underlying 32 = some (.slice 22) := by kernel_rfl
  clear b4 b04 g1 c0 c1
  by_cases hxs : xs = []
  case pos =>
    subst hxs
    have etv := hnil rfl
    simp only [Value.slice.injEq] at etv
    obtain ⟨ea, _, ec⟩ := etv
    subst ea ec
    have hn0 : n = 0 := by simpa using hnl
    subst hn0
    obtain ⟨r, w6, hrun2, hown2, b6⟩ := appI_run w4 _ x hx4 hwid
    obtain ⟨ra, rc, er, _⟩ := id hown2.intsS
    subst er
    obtain ⟨v2, w8, hrun3, hown3, hgr3, _⟩ := run_append_own (P := Try.prog) (w6.alloc (.cells #[.slice ra x.length rc] 22)) w4.heap.size 32 32 22 i0 (.slice none 0 0) 1 24 ht hi0 hz0 hz1 hz2 rfl (by decide) (.slice none 0 0) 0 [] (World.ownsRow_nil _ _ _ _) ⟨w6.heap.size, 0, none⟩ 1 1 [.slice ra x.length rc] rfl (cell_one_new _ _ _) (by simp [Value.oneCell']) (by unfold maxLen; omega) (by omega) (by have := b6.size; simp; omega)
    obtain ⟨g, cap2, ev2⟩ := ownsRow_succ (k := 0) (by simpa using hown3)
    subst ev2
    have hcap2 : 1 ≤ cap2 := by
      rcases hown3.2 with ⟨e, _⟩ | ⟨_, _, _, e, _, _, hle, _⟩
      · cases e
      · simp only [Value.slice.injEq] at e
        omega
    have b68 : Below w6.heap.size w6 w8 := ((Below.refl _ w6).alloc (Nat.le_refl _) _).grown hgr3 (by simp) (fun k e => by cases e)
    have b48 := b6.trans (b68.mono b6.size)
    have q8 := At2.cells (((unhide HHH).later (unhide HB04)).later b48)
    obtain ⟨p0, p1, _, p3⟩ := q8
    have HR1 := hide (app_nilT w4)
    have HR2 := hide hrun2
    have HR3 := hide hrun3
    have HR4 := hide (app_oneT w8 g cap2 hcap2)
    have HFIN : Hid (RAt S (w8.setCell ⟨rb, d + 1, none⟩ (.slice (some ⟨g, 0, none⟩) 1 cap2)) rb d (cs.setIfInBounds (d + 1) (.slice (some ⟨g, 0, none⟩) 1 cap2)) o (insX o x []) ∧ Keeps (fun b => b = rb) w (w8.setCell ⟨rb, d + 1, none⟩ (.slice (some ⟨g, 0, none⟩) 1 cap2))) :=
      rins_doneD (f := f) (r := .slice ra x.length rc) (unhide HH) (fun j hj => (unhide HF).2 j hj) (unhide HB04) b48 (unhide HNEW) (hown2.intsS.later b68) (by simpa [valsR, atN] using hown3)
    clear hrun2 hrun3 hown2 hown3 hgr3 b6 b68 b48 hx4
    go_wp2_with (at_builtin; first
      | (refine wpList_append_run _ rfl _ _ 32 rfl _ _ rfl rfl _ _ (unhide HR1) ?_; clear HR1)
      | (refine wpList_append_run _ rfl _ _ 22 rfl _ _ rfl rfl _ _ (unhide HR2) ?_; clear HR2)
      | (refine wpList_append_run _ rfl _ _ 32 rfl _ _ rfl rfl _ _ (unhide HR3) ?_; clear HR3)
      | (refine wpList_append_run _ rfl _ _ 32 rfl _ _ rfl rfl _ _ (unhide HR4) ?_; clear HR4))
    go_ret2
    exact ⟨tupBE (unhide HE).1.symm (unhide HE).2.1.symm, by rw [(unhide HE).2.2]; exact ⟨_, (unhide HFIN).1⟩, (unhide HFIN).2⟩
  case neg =>
  have hlen : 0 < xs.length := List.length_pos_iff.2 hxs
  obtain ⟨b, off, ea, _, _⟩ := (unhide HF).1 0 hlen
  subst ea
  have HROW : Hid (∀ j, j < xs.length → w4.cell? ⟨b, off + j, none⟩ = some (f j)) := fun j hj => by
    obtain ⟨b', off', e, _, hc⟩ := (unhide HF).1 j hj
    cases e
    obtain ⟨_, hz, _⟩ := cells_of_cell hc
    exact ((unhide HB04).cell (p := ⟨b, off + j, none⟩) (lt_heap hz)).trans hc
  have h1c : ∀ j, j < xs.length → (f j).oneCell' = true := fun j hj => by
    obtain ⟨ja, jc, e, _⟩ := (unhide HF).2 j hj
    rw [e]; rfl
  clear hxs hnil
  -- the first row
  obtain ⟨v1, w5, hrun1, hown1, hgr1, _⟩ := run_append_own (P := Try.prog) w4 w4.heap.size 32 32 22 i0 (.slice none 0 0) 1 24 ht hi0 hz0 hz1 hz2 rfl (by decide) (.slice none 0 0) 0 [] (World.ownsRow_nil _ _ _ _) ⟨b, off, none⟩ n cap ((List.range n).map f) (by simp) (fun j u hj => by
    rw [List.getElem?_map, Option.map_eq_some_iff] at hj
    obtain ⟨j', hj', rfl⟩ := hj
    obtain ⟨hjl, rfl⟩ := List.getElem?_eq_some_iff.1 hj'
    simp only [List.length_range] at hjl
    rw [Addr.add_lit, List.getElem_range]
    exact unhide HROW j (by omega)) (fun u hu => by
    obtain ⟨j, hj, rfl⟩ := List.mem_map.1 hu
    exact h1c j (by have := List.mem_range.1 hj; omega)) (by unfold maxLen; omega) (by omega) (Nat.le_refl _)
  rw [Nat.zero_add, List.nil_append] at hown1
  have b45 : Below w4.heap.size w4 w5 := (Below.refl _ w4).grown hgr1 (Nat.le_refl _) (fun k e => by cases e)
  have hs45 := b45.size
  obtain ⟨r, w6, hrun2, hown2, b6⟩ := appI_run w5 _ x ((hx4.below b45 (Nat.le_refl _)).mono hs45) hwid
  have hs56 := b6.size
  obtain ⟨ra, rc, er, _⟩ := id hown2.intsS
  subst er
  have b67 : Below w6.heap.size w6 (w6.alloc (.cells #[.slice ra x.length rc] 22)) := (Below.refl _ w6).alloc (Nat.le_refl _) _
  have hown1' : (w6.alloc (.cells #[.slice ra x.length rc] 22)).ownsRow w4.heap.size 22 1 v1 n ((List.range n).map f) := own_later (own_later hown1 b6) b67
  obtain ⟨v2, w8, hrun3, hown3, hgr3, _, hat3⟩ := run_append_own_at (P := Try.prog) (w6.alloc (.cells #[.slice ra x.length rc] 22)) w4.heap.size 32 32 22 i0 (.slice none 0 0) 1 24 ht hi0 hz0 hz1 hz2 rfl (by decide) v1 n ((List.range n).map f) hown1' ⟨w6.heap.size, 0, none⟩ 1 1 [.slice ra x.length rc] rfl (cell_one_new _ _ _) (by simp [Value.oneCell']) (by unfold maxLen; omega) (by omega) (by simp; omega)
  have hK78 := own_keep hown1' hgr3
  have hs78 := hK78.size
  have hs67 := b67.size
  have b78 : Below w4.heap.size (w6.alloc (.cells #[.slice ra x.length rc] 22)) w8 := hK78.below (by omega) (fun b hb => hb)
  have b48 : Below w4.heap.size w4 w8 := ((b45.trans (b6.mono hs45)).trans (b67.mono (by omega))).trans b78
  have hcell8 : ∀ j, j < xs.length → w8.cell? ⟨b, off + j, none⟩ = some (f j) := fun j hj => by
    have hc := unhide HROW j hj
    obtain ⟨_, hz, _⟩ := cells_of_cell hc
    exact (b48.cell (p := ⟨b, off + j, none⟩) (lt_heap hz)).trans hc
  -- the tuple's copy lies apart from the rows
  have hr8 : IntsS (fun q => w5.heap.size ≤ q ∧ q < (w6.alloc (.cells #[.slice ra x.length rc] 22)).heap.size) w8 (.slice ra x.length rc) x := by
    have h7 := (hown2.intsS.later b67).mono (S' := fun q => w5.heap.size ≤ q ∧ q < (w6.alloc (.cells #[.slice ra x.length rc] 22)).heap.size) (fun q h1 h2 => ⟨h2, h1⟩)
    refine h7.stays ((keeps_grown (O := fun q => some q = v1.ownBlock) hgr3 (fun _ h => h)).stays (fun q _ hq e => ?_))
    have := own_inside hown1 q e
    omega
  have hlt2 := own_inside hown3
  have hat3' : ∀ q, some q = v2.ownBlock → q < w5.heap.size ∨ (w6.alloc (.cells #[.slice ra x.length rc] 22)).heap.size ≤ q := fun q hq => by
    rcases hat3 with e | e
    · exact .inl (own_inside hown1 q (by rw [← e]; exact hq))
    · right
      rw [e] at hq
      simp only [Option.some.injEq] at hq
      omega
  obtain ⟨g2, cap2, ev2⟩ := ownsRow_succ hown3
  subst ev2
  have FIN : Hid (∀ v3 w9, w9.ownsRow w4.heap.size 22 1 v3 (n + 1 + (xs.length - n)) (((List.range n).map f ++ [.slice ra x.length rc]) ++ (List.range (xs.length - n)).map (fun j => f (n + j))) → w8.grownBy w9 (Value.slice (some ⟨g2, 0, none⟩) (n + 1) cap2).ownBlock →
      (RAt S (w9.setCell ⟨rb, d + 1, none⟩ v3) rb d (cs.setIfInBounds (d + 1) v3) o (insX o x xs) ∧ Keeps (fun b => b = rb) w (w9.setCell ⟨rb, d + 1, none⟩ v3)) ∧ w9.cell? ⟨rb, d, none⟩ = some (.slice oa o.length oc) ∧ w9.cell? ⟨rb, d + 1, none⟩ = some (.slice (some ⟨b, off, none⟩) xs.length cap) ∧ w9.frozen? ⟨rb, d + 1, none⟩ = false) := fun v3 w9 ho4 hg4 => by
    have hK89 := own_keep hown3 hg4
    have b49 : Below w4.heap.size w4 w9 := b48.trans (hK89.below (by omega) (fun b hb => hb))
    have hr9 : IntsS (fun q => w4.heap.size ≤ q) w9 (.slice ra x.length rc) x := by
      refine (hr8.stays ((keeps_grown (O := fun q => some q = (Value.slice (some ⟨g2, 0, none⟩) (n + 1) cap2).ownBlock) hg4 (fun _ h => h)).stays (fun q _ hq e => ?_))).mono (fun q _ hq => by omega)
      rcases hat3' q e with h | h
      · omega
      · omega
    have hd := rins_doneD (f := f) (r := .slice ra x.length rc) (unhide HH) (fun j hj => (unhide HF).2 j hj) (unhide HB04) b49 (unhide HNEW) hr9 (v3 := v3) (by
      rw [← unhide HN]
      have e : n + 1 + (xs.length - n) = xs.length + 1 := by omega
      rw [e] at ho4
      exact ho4)
    obtain ⟨p0, p1, _, p3⟩ := At2.cells (((unhide HHH).later (unhide HB04)).later b49)
    exact ⟨hd, p0, p1, p3⟩
  have CELLS : Hid (∀ j u, ((List.range (xs.length - n)).map (fun j => f (n + j)))[j]? = some u → w8.cell? ((⟨b, off + n, none⟩ : Addr).add j) = some u) := fun j u hj => by
    rw [List.getElem?_map, Option.map_eq_some_iff] at hj
    obtain ⟨j', hj', rfl⟩ := hj
    obtain ⟨hjl, rfl⟩ := List.getElem?_eq_some_iff.1 hj'
    simp only [List.length_range] at hjl
    rw [Addr.add_lit, List.getElem_range, Nat.add_assoc]
    exact hcell8 (n + j) (by omega)
  have ONES : Hid (∀ u ∈ (List.range (xs.length - n)).map (fun j => f (n + j)), u.oneCell' = true) := fun u hu => by
    obtain ⟨j, hj, rfl⟩ := List.mem_map.1 hu
    exact h1c _ (by have := List.mem_range.1 hj; omega)
  obtain ⟨z0, z1, _, z3⟩ := At2.cells (((unhide HHH).later (unhide HB04)).later b48)
  have HR1 := hide hrun1
  have HR2 := hide hrun2
  have HR3 := hide hrun3
  have HO3 := hide hown3
  have hsz8 : w4.heap.size ≤ w8.heap.size := b48.size
  have hm1 : n + 1 + (xs.length - n) ≤ maxLen := by unfold maxLen; omega
  have hm2 : (n + 1 + (xs.length - n)) * 24 ≤ 140737488355328 := by omega
  clear hrun1 hrun2 hrun3 hown1 hown1' hown2 hown3 hgr1 hgr3 hat3 hat3' hr8 hK78 b45 b6 b67 b78 b48 hx4 hcell8 h1c HROW hlt2 hs78 hs67 hs56
  by_cases hcn : n < cap
  case pos =>
    have hcn2 : ¬ (cap - n = 0) := by omega
    have hcn3 : ¬ (cap = n) := by omega
    go_wp2_with (at_builtin; first
      | (refine wpList_append_run _ rfl _ _ 32 rfl _ _ rfl rfl _ _ (unhide HR1) ?_; clear HR1)
      | (refine wpList_append_run _ rfl _ _ 22 rfl _ _ rfl rfl _ _ (unhide HR2) ?_; clear HR2)
      | (refine wpList_append_run _ rfl _ _ 32 rfl _ _ rfl rfl _ _ (unhide HR3) ?_; clear HR3)
      | (refine wpList_append_own _ rfl _ _ 32 rfl w4.heap.size 22 i0 (.slice none 0 0) 1 24 ht hi0 hz0 hz1 hz2 rfl (by decide) _ _ _ rfl (unhide HO3) _ (xs.length - n) _ ((List.range (xs.length - n)).map (fun j => f (n + j))) rfl (by simp) (unhide CELLS) (unhide ONES) hm1 hm2 hsz8 ?_; intro v3 w9 hown4 hgr4 hnil4; obtain ⟨HF9, p0, p1, p3⟩ := unhide FIN v3 w9 hown4 hgr4; obtain ⟨g3, cap3, ev3⟩ := ownsRow_succ (k := xs.length) (by rw [show xs.length + 1 = n + 1 + (xs.length - n) by omega]; exact hown4); subst ev3; have HF9' := hide HF9; clear HF9 hown4 hgr4 hnil4))
    all_goals
      go_ret2
      exact ⟨tupBE (unhide HE).1.symm (unhide HE).2.1.symm, by rw [(unhide HE).2.2]; exact ⟨_, (unhide HF9').1⟩, (unhide HF9').2⟩
  case neg =>
    have hcn2 : cap - n = 0 := by omega
    have hcn3 : cap ≤ n := by omega
    go_wp2_with (at_builtin; first
      | (refine wpList_append_run _ rfl _ _ 32 rfl _ _ rfl rfl _ _ (unhide HR1) ?_; clear HR1)
      | (refine wpList_append_run _ rfl _ _ 22 rfl _ _ rfl rfl _ _ (unhide HR2) ?_; clear HR2)
      | (refine wpList_append_run _ rfl _ _ 32 rfl _ _ rfl rfl _ _ (unhide HR3) ?_; clear HR3)
      | (refine wpList_append_own _ rfl _ _ 32 rfl w4.heap.size 22 i0 (.slice none 0 0) 1 24 ht hi0 hz0 hz1 hz2 rfl (by decide) _ _ _ rfl (unhide HO3) _ (xs.length - n) _ ((List.range (xs.length - n)).map (fun j => f (n + j))) rfl (by simp) (by intro j u hj; rw [show xs.length - n = 0 by omega] at hj; simp at hj) (unhide ONES) hm1 hm2 hsz8 ?_; intro v3 w9 hown4 hgr4 hnil4; obtain ⟨HF9, p0, p1, p3⟩ := unhide FIN v3 w9 hown4 hgr4; obtain ⟨g3, cap3, ev3⟩ := ownsRow_succ (k := xs.length) (by rw [show xs.length + 1 = n + 1 + (xs.length - n) by omega]; exact hown4); subst ev3; have HF9' := hide HF9; clear HF9 hown4 hgr4 hnil4))
    all_goals
      go_ret2
      exact ⟨tupBE (unhide HE).1.symm (unhide HE).2.1.symm, by rw [(unhide HE).2.2]; exact ⟨_, (unhide HF9').1⟩, (unhide HF9').2⟩
end Go.Proofs.Ytmjlhmhkbfnccaa
