/- BtreeOne: the walk. -/
import Derived.Test.YtmjlhmhkbfnccaaAlive
import Derived.Test.YtmjlhmhkbfnccaaNews
import Derived.Test.YtmjlhmhkbfnccaaFolds
namespace Go.Proofs.Ytmjlhmhkbfnccaa
open Go.RowKit Go.Shelf

/-- Two sets, each apart from the other. -/
structure Two (W w : World) (s1 h1 s2 h2 : Nat) (o1 o2 : List Int) (xs ys : List (List Int)) : Prop where
  a : SetT (fun b => b ≠ h1 ∧ b ≠ h2) w s1 h1 o1 xs
  b : SetT (fun b => b ≠ h1 ∧ b ≠ h2) w s2 h2 o2 ys
  ne : h1 ≠ h2
  l1 : W.heap.size ≤ h1
  l2 : W.heap.size ≤ h2
  bel : Below W.heap.size W w
theorem Two.later {W w w' : World} {s1 h1 s2 h2 : Nat} {o1 o2 : List Int} {xs ys : List (List Int)} (h : Two W w s1 h1 s2 h2 o1 o2 xs ys) (hb : Below w.heap.size w w') : Two W w' s1 h1 s2 h2 o1 o2 xs ys :=
  ⟨h.a.later hb, h.b.later hb, h.ne, h.l1, h.l2, h.bel.trans (hb.mono h.bel.size)⟩
theorem Two.new {W w : World} {s1 h1 s2 h2 : Nat} {o1 o2 : List Int} {xs ys : List (List Int)} (h : Two W w s1 h1 s2 h2 o1 o2 xs ys) : NewIn (fun b => b ≠ h1 ∧ b ≠ h2) w := fun b hb => ⟨by have := h.a.lt; omega, by have := h.b.lt; omega⟩
theorem Two.ins1 {W w : World} {s1 h1 s2 h2 : Nat} {o1 o2 : List Int} {xs ys : List (List Int)} (h : Two W w s1 h1 s2 h2 o1 o2 xs ys) {xv : Value} {x : List Int} (hx : Ints w.heap.size w xv x) (hB : Bnd x) :
    Calls Try.prog 14 #[.pointer (some ⟨s1, 0, none⟩), xv] w fun e w' => e = .returned (.tuple #[.bool (insBL o1 x xs), .int .i64 (insEL o1 x xs)]) ∧ Two W w' s1 h1 s2 h2 o1 o2 (insTo o1 x xs) ys := by
  refine (insert_T _ w s1 h1 o1 x xs xv h.a hx hB h.new).mono ?_
  rintro e w' ⟨rfl, h2, h3⟩
  exact ⟨rfl, h2, h.b.keeps h3 (fun e => h.ne e.symm) (fun e => e.1 rfl), h.ne, h.l1, h.l2, h.bel.trans (h3.below h.bel.size (fun b hb => by have := h.l1; omega))⟩
theorem Two.ins2 {W w : World} {s1 h1 s2 h2 : Nat} {o1 o2 : List Int} {xs ys : List (List Int)} (h : Two W w s1 h1 s2 h2 o1 o2 xs ys) {xv : Value} {x : List Int} (hx : Ints w.heap.size w xv x) (hB : Bnd x) :
    Calls Try.prog 14 #[.pointer (some ⟨s2, 0, none⟩), xv] w fun e w' => e = .returned (.tuple #[.bool (insBL o2 x ys), .int .i64 (insEL o2 x ys)]) ∧ Two W w' s1 h1 s2 h2 o1 o2 xs (insTo o2 x ys) := by
  refine (insert_T _ w s2 h2 o2 x ys xv h.b hx hB h.new).mono ?_
  rintro e w' ⟨rfl, h2, h3⟩
  exact ⟨rfl, h.a.keeps h3 h.ne (fun e => e.2 rfl), h2, h.ne, h.l1, h.l2, h.bel.trans (h3.below h.bel.size (fun b hb => by have := h.l2; omega))⟩
theorem new_T2 (w : World) (ov : Value) (o : List Int) (ho : Ints w.heap.size w ov o) (hr : right o = true) :
    Calls Try.prog 13 #[ov] w fun e w' => ∃ sb, e = .returned (.tuple #[.pointer (some ⟨sb, 0, none⟩), .int .i64 0]) ∧ (∃ hb, SetT (fun b => w.heap.size ≤ b ∧ b ≠ hb) w' sb hb o [] ∧ w.heap.size ≤ hb) ∧ Below w.heap.size w w' :=
  (new_set2 w ov o ho hr).mono fun e w' ⟨sb, h1, ⟨hb, h2, h3⟩, h4⟩ => ⟨sb, h1, ⟨hb, ⟨[], h2, fun _ h => (by cases h), rfl⟩, h3⟩, h4⟩
/-- Two sets that were made one behind the other. -/
theorem Two.made {W w1 w2 : World} {s1 h1 s2 h2 : Nat} {o1 o2 : List Int} (ha : SetT (fun b => W.heap.size ≤ b ∧ b ≠ h1) w1 s1 h1 o1 []) (l1 : W.heap.size ≤ h1) (b1 : Below W.heap.size W w1) (hb : SetT (fun b => w1.heap.size ≤ b ∧ b ≠ h2) w2 s2 h2 o2 []) (l2 : w1.heap.size ≤ h2) (b2 : Below w1.heap.size w1 w2) : Two W w2 s1 h1 s2 h2 o1 o2 [] [] := by
  have hlt := ha.lt
  have hs := b1.size
  exact ⟨((ha.mono (S' := fun b => b ≠ h1 ∧ b ≠ h2) (fun b hb h => ⟨h.2, by omega⟩) (fun h => h.1 rfl))).later b2, hb.mono (fun b hb h => ⟨by omega, h.2⟩) (fun h => h.2 rfl), by omega, l1, by omega, b1.trans (b2.mono hs)⟩

/-- The i-th tuple of a list that came in. -/
def RowsIn (W : World) (a : Option Addr) (f : Nat → Value) (xs : List (List Int)) : Prop := ∀ wr, Below W.heap.size W wr → ∀ j, j < xs.length → ∃ b off, a = some ⟨b, off, none⟩ ∧ wr.cell? ⟨b, off + j, none⟩ = some (f j) ∧ Ints wr.heap.size wr (f j) (xs.getD j []) ∧ Bnd (xs.getD j [])
theorem rowsIn {W : World} {v : Value} {xs : List (List Int)} (h : ListAt (fun b => b < W.heap.size) W v xs) (hB : ∀ x ∈ xs, Bnd x) : ∃ a cap f, v = .slice a xs.length cap ∧ xs.length ≤ cap ∧ cap ≤ 9223372036854775807 ∧ RowsIn W a f xs := by
  obtain ⟨f, ⟨a, cap, rfl, hc1, hc2, hf⟩, hfi⟩ := h
  refine ⟨a, cap, f, rfl, hc1, hc2, fun wr hb j hj => ?_⟩
  obtain ⟨b, off, e, hlt, hc⟩ := hf j hj
  refine ⟨b, off, e, (hb.cell (p := ⟨b, off + j, none⟩) hlt).trans hc, ((hfi j hj).later hb).ints, hB _ ?_⟩
  rw [List.getD, List.getElem?_eq_getElem hj]
  exact List.getElem_mem hj

/-- Rests of numbers that are small. -/
theorem wrap_small {x : Int} (h : -9223372036854775808 ≤ x) (h2 : x ≤ 9223372036854775807) : wrap64 x = x := by
  have := IntKind.wrap_i64 x
  first
  | (unfold wrap64; omega)
  | (rw [← IntKind.wrap_i64]; omega)
theorem by_of (n : Int) (L : Nat) (h0 : 0 < L) (h1 : L ≤ 1024) : ∃ m : Nat, m < L ∧ (wrap64 (n.tmod (L : Int) + (L : Int))).tmod (L : Int) = (m : Int) := by
  have hL : (0 : Int) < (L : Int) := by omega
  have r2 := Int.tmod_lt_of_pos n hL
  have r1 : -(L : Int) < n.tmod (L : Int) := by
    by_cases hn : 0 ≤ n
    · have := Int.tmod_nonneg (L : Int) hn
      omega
    · have e : n.tmod (L : Int) = -((-n).tmod (L : Int)) := by rw [Int.neg_tmod, Int.neg_neg]
      have := Int.tmod_lt_of_pos (-n) hL
      omega
  rw [wrap_small (by omega) (by omega), Int.tmod_eq_emod_of_nonneg (by omega)]
  have m0 := Int.emod_nonneg (n.tmod (L : Int) + (L : Int)) (show (L : Int) ≠ 0 by omega)
  have m1 := Int.emod_lt_of_pos (n.tmod (L : Int) + (L : Int)) hL
  exact ⟨((n.tmod (L : Int) + (L : Int)) % (L : Int)).toNat, by omega, by omega⟩
theorem add_of (k m L : Nat) (h0 : 0 < L) : ∃ r : Nat, r < L ∧ ((k : Int) + (m : Int)).tmod (L : Int) = (r : Int) ∧ (k + m) % L = r := by
  refine ⟨(k + m) % L, Nat.mod_lt _ h0, ?_, rfl⟩
  rw [Int.tmod_eq_emod_of_nonneg (by omega)]
  simp

def ORel (W : World) (s1 h1 s2 h2 : Nat) (o : List Int) (xs : List (List Int)) (n : Nat) (i : Value) (wr : World) : Prop := ∃ k : Nat, k ≤ xs.length ∧ i = .int .i64 k ∧ Two W wr s1 h1 s2 h2 o o (insAll o [] (xs.take k)) (insAll o [] (backBy xs n k))

set_option maxRecDepth 100000 in
set_option maxHeartbeats 4000000 in
theorem one_walk (W : World) (ov lv : Value) (o : List Int) (xs : List (List Int)) (n : Int) (ho : Ints W.heap.size W ov o) (hl : ListAt (fun b => b < W.heap.size) W lv xs) (hB : ∀ x ∈ xs, Bnd x) (hn : -9223372036854775808 ≤ n ∧ n ≤ 9223372036854775807) :
    Calls Try.prog 4 #[ov, lv, .int .i64 n] W fun e W' => e = .returned (.bool true) ∧ Below W.heap.size W W' := by
  obtain ⟨a, cap, f, rfl, hc1, hc2, hf⟩ := rowsIn hl hB
  have HF := hide hf
  clear hl hf hB
  obtain ⟨oa, oc, rfl, _⟩ := id ho
  cases hr : right o with
  | false =>
    have hn1 := new_no W _ o ho hr
    have HO := hide ho
    have HR := hide hr
    clear ho hr
    go_enter Try.func4, Try.ntmps4
    go_wp2_with fail
    refine hn1.mono ?_
    clear hn1
    rintro e w1 ⟨rfl, b1⟩
    have hn2 := new_no w1 _ o (((unhide HO).below b1 (Nat.le_refl _)).mono b1.size) (unhide HR)
    have HB1 := hide b1
    clear b1
    go_wp2_with fail
    refine hn2.mono ?_
    clear hn2
    rintro e w2 ⟨rfl, b2⟩
    have hal := alive_any w2
    have HB2 := hide ((unhide HB1).trans (b2.mono (unhide HB1).size))
    clear b2
    go_wp2_with fail
    refine hal.mono ?_
    clear hal
    rintro e w3 ⟨rfl, b3⟩
    go_wp2_with fail
    go_ret
    exact ⟨rfl, (unhide HB2).trans (b3.mono (unhide HB2).size)⟩
  | true =>
    have hn1 := new_T2 W _ o ho hr
    have HO := hide ho
    have HR := hide hr
    clear ho hr
    go_enter Try.func4, Try.ntmps4
    go_wp2_with fail
    refine hn1.mono ?_
    clear hn1
    rintro e w1 ⟨s1, rfl, ⟨h1, hT1, l1⟩, b1⟩
    have hn2 := new_T2 w1 _ o (((unhide HO).below b1 (Nat.le_refl _)).mono b1.size) (unhide HR)
    have HB1 := hide (And.intro hT1 (And.intro l1 b1))
    clear hT1 l1 b1
    go_wp2_with fail
    refine hn2.mono ?_
    clear hn2
    rintro e w2 ⟨s2, rfl, ⟨h2, hT2, l2⟩, b2⟩
    have hTwo := Two.made (unhide HB1).1 (unhide HB1).2.1 (unhide HB1).2.2 hT2 l2 b2
    have hal := alive_any w2
    have HT := hide hTwo
    clear hTwo hT2 l2 b2 HB1
    go_wp2_with fail
    refine hal.mono ?_
    clear hal
    rintro e w3 ⟨rfl, b3⟩
    have hT3 := (unhide HT).later b3
    have HT3 := hide hT3
    clear HT hT3 b3
    by_cases h0 : xs.length = 0
    · have h0' : ((xs.length : Int) == 0) = true := by simp [h0]
      have H0 := hide h0
      clear h0
      go_wp2_with fail
      go_ret
      exact ⟨rfl, (unhide HT3).bel⟩
    · have h0' : ((xs.length : Int) == 0) = false := by rw [beq_eq_false_iff_ne]; omega
      by_cases h1024 : 1024 < xs.length
      · have hg : (1024 : Int) < (xs.length : Int) := by omega
        go_wp2_with fail
        go_ret
        exact ⟨rfl, (unhide HT3).bel⟩
      · have hg : ¬ ((1024 : Int) < (xs.length : Int)) := by omega
        go_wp2_with fail
        obtain ⟨m, hm, hmv⟩ := by_of n xs.length (by omega) (by omega)
        rw [hmv]
        have HM := hide (And.intro hmv hn)
        clear hmv hn
        go_loopw [53] (fun i wr => ORel W s1 h1 s2 h2 o xs m i wr) (fun i _ => xs.length - (intOf i).toNat)
        case atStart => exact ⟨0, Nat.zero_le _, rfl, by simpa [insAll, backBy] using unhide HT3⟩
        case round =>
          obtain ⟨k, hk, rfl, hTw⟩ := hrel
          have HTW := hide hTw
          by_cases hlt : k < xs.length
          · obtain ⟨b, off, rfl, hc, hx, hxB⟩ := unhide HF wr hTw.bel k hlt
            obtain ⟨x, hxe⟩ : ∃ x, x = xs.getD k [] := ⟨_, rfl⟩
            rw [← hxe] at hx hxB
            have HXE := hide hxe
            clear hxe
            have hi1 := hTw.ins1 hx hxB
            obtain ⟨xa, xc, ex, _⟩ := id hx
            rw [ex] at hc hi1
            clear hTw hx ex
            go_wp2_with fail
            refine hi1.mono ?_
            clear hi1
            rintro e w4 ⟨rfl, hT4⟩
            obtain ⟨r, hr, ht1, hre⟩ := add_of k m xs.length (by omega)
            obtain ⟨b', off', e', hc2, hy, hyB⟩ := unhide HF w4 hT4.bel (xs.length - 1 - r) (by omega)
            cases e'
            obtain ⟨y, hye⟩ : ∃ y, y = xs.getD (xs.length - 1 - r) [] := ⟨_, rfl⟩
            rw [← hye] at hy hyB
            have HYE := hide hye
            clear hye
            have hi2 := hT4.ins2 hy hyB
            obtain ⟨ya, yc, ey, _⟩ := id hy
            rw [ey] at hc2 hi2
            have hq : ((xs.length : Int) - 1 - (r : Int)).toNat = xs.length - 1 - r := by omega
            have hc3 := hc2
            have hc4 := hc2
            rw [← hq] at hc3
            rw [show xs.length - 1 - r = xs.length - (1 + r) by omega] at hc4
            have z0 : 0 ≤ (xs.length : Int) - 1 - (r : Int) := by omega
            have z1 : (xs.length : Int) - 1 - (r : Int) < (xs.length : Int) := by omega
            have HRE := hide (And.intro hre hq)
            clear hre hq hy ey hT4
            go_wp2_with fail
            refine hi2.mono ?_
            clear hi2
            rintro e w5 ⟨rfl, hT5⟩
            have HT5 := hide hT5
            clear hT5 ht1
            go_wp2_with fail
            go_roundw
            case rel =>
              refine ⟨k + 1, by omega, by go_num, ?_⟩
              have e1 : xs.getD k [] = xs[k] := by simp [List.getD, List.getElem?_eq_getElem hlt]
              rw [List.take_succ_eq_append_getElem hlt, insAll_snoc, backBy_succ, insAll_snoc, (unhide HRE).1, ← e1, ← unhide HXE, ← unhide HYE]
              exact unhide HT5
            case measure => simp [intOf]; omega
          · have hk2 : k = xs.length := by omega
            subst hk2
            have hsame := insAll_back (unhide HR) hm (by omega) (by have := hTw.a.up; rw [List.take_length] at this; exact this) hTw.b.up
            rw [List.take_length, ← hsame] at hTw
            have hl1 := len_T _ wr s1 h1 o _ hTw.a
            have HTW := hide hTw
            clear hTw hsame
            generalize insAll o [] xs = A at hl1 HTW
            go_wp2_with fail
            refine hl1.mono ?_
            clear hl1
            rintro e w5 ⟨rfl, b5⟩
            have hT5 := (unhide HTW).later b5
            have hl2 := len_T _ w5 s2 h2 o _ hT5.b
            have HT5 := hide hT5
            clear hT5 b5
            go_wp2_with fail
            refine hl2.mono ?_
            clear hl2
            rintro e w6 ⟨rfl, b6⟩
            have hT6 := (unhide HT5).later b6
            have ha1 := all_T _ w6 s1 h1 o _ hT6.a
            have HT6 := hide hT6
            clear hT6 b6
            go_wp2_with fail
            refine ha1.mono ?_
            clear ha1
            rintro e w7 ⟨lb7, its7, rfl, hg7, he7, hn7, b7⟩
            have hT7 := (unhide HT6).later b7
            have hl7 := list_G w7 _ lb7 its7 _ _ hg7 eg_all hn7 he7
            have HT7 := hide hT7
            clear hT7 b7 hg7 he7 hn7
            go_wp2_with fail
            refine hl7.mono ?_
            clear hl7
            rintro e w8 ⟨rv8, rfl, hL8, b8⟩
            have hT8 := (unhide HT7).later b8
            obtain ⟨f8, ⟨ra8, rc8, er8, _⟩, _⟩ := id hL8
            subst er8
            have ha2 := all_T _ w8 s2 h2 o _ hT8.b
            have HT8 := hide hT8
            have HL8 := hide hL8
            clear hT8 b8 hL8
            go_wp2_with fail
            refine ha2.mono ?_
            clear ha2
            rintro e w9 ⟨lb9, its9, rfl, hg9, he9, hn9, b9⟩
            have hT9 := (unhide HT8).later b9
            have hL9 := (unhide HL8).later b9
            have hl9 := list_G w9 _ lb9 its9 _ _ hg9 eg_all hn9 he9
            have HT9 := hide hT9
            have HL9 := hide hL9
            clear hT9 hL9 b9 hg9 he9 hn9
            go_wp2_with fail
            refine hl9.mono ?_
            clear hl9
            rintro e w10 ⟨rv10, rfl, hL10, b10⟩
            have hT10 := (unhide HT9).later b10
            obtain ⟨f10, ⟨ra10, rc10, er10, _⟩, _⟩ := id hL10
            subst er10
            have hs := rsame_any (fun _ => True) w10 _ _ _ _ (((unhide HL9).later b10).mono (fun _ _ _ => trivial)) (hL10.mono (fun _ _ _ => trivial))
            have HT10 := hide hT10
            clear hT10 hL10 b10
            go_wp2_with fail
            refine hs.mono ?_
            clear hs
            rintro e w11 ⟨rfl, b11⟩
            have e11 : sameLB A A = true := by simp [sameLB]
            rw [e11]
            go_wp2_with fail
            go_ret
            exact ⟨rfl, ((unhide HT10).later b11).bel⟩
end Go.Proofs.Ytmjlhmhkbfnccaa
