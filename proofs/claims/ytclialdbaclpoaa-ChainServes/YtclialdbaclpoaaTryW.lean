/- The walk of the document's try. -/
import Derived.Test.YtclialdbaclpoaaWays
import Derived.Test.YtclialdbaclpoaaTries
namespace Go.Proofs.Ytclialdbaclpoaa
open Go.RowKit Go.Shelf Go.Maps

theorem and_nat (a b : Nat) (ha : a < 4611686018427387904) (hb : b < 4611686018427387904) : bits .and .i64 (a : Int) (b : Int) = ((a &&& b : Nat) : Int) := by
  have hx : a &&& b ≤ a := Nat.and_le_left
  show IntKind.i64.wrap ((BitVec.ofInt 64 (a : Int) &&& BitVec.ofInt 64 (b : Int)).toNat : Int) = _
  rw [BitVec.toNat_and, ofInt_u64 a (by omega), ofInt_u64 b (by omega), IntKind.wrap_i64]
  omega
theorem and_sub (a b : Int) (h0 : 0 ≤ a) (h1 : a < 256) (h2 : 0 ≤ b) (h3 : b < 256) : (bits .and .i64 a b != a) = !sub a b := by
  obtain ⟨A, rfl⟩ := Int.eq_ofNat_of_zero_le h0
  obtain ⟨B, rfl⟩ := Int.eq_ofNat_of_zero_le h2
  rw [and_nat A B (by omega) (by omega)]
  unfold sub
  simp only [Int.toNat_natCast]
  rw [bne, Bool.not_eq_eq_eq_not, Bool.not_not, Bool.eq_iff_iff, beq_iff_eq, beq_iff_eq]
  omega
/-- A place of truths that may be written. -/
def ArrB (w : World) (b n : Nat) (f : Nat → Bool) : Prop := ∃ cur, w.heap[b]? = some (.cells cur 4 (0, 0)) ∧ ∀ j, j < n → cur[j]? = some (.bool (f j))
theorem ArrB.lt {w : World} {b n : Nat} {f : Nat → Bool} (h : ArrB w b n f) : b < w.heap.size := by
  obtain ⟨cur, h, _⟩ := h
  exact lt_heap h
theorem ArrB.cell {w : World} {b n : Nat} {f : Nat → Bool} (h : ArrB w b n f) {j : Nat} (hj : j < n) : w.cell? ⟨b, j, none⟩ = some (.bool (f j)) ∧ w.frozen? ⟨b, j, none⟩ = false := by
  obtain ⟨cur, h1, h2⟩ := h
  exact ⟨(cell_at h1 j).trans (h2 j hj), by simp [World.frozen?, h1]⟩
theorem ArrB.keeps {O : Nat → Prop} {w w' : World} {b n : Nat} {f : Nat → Bool} (h : ArrB w b n f) (hk : Keeps O w w') (hO : ¬ O b) : ArrB w' b n f := by
  obtain ⟨cur, h1, h2⟩ := h
  exact ⟨cur, hk.same _ _ h1 hO, h2⟩
theorem ArrB.set {w : World} {b n : Nat} {f : Nat → Bool} (h : ArrB w b n f) {k : Nat} (hk : k < n) : ArrB (w.setCell ⟨b, k, none⟩ (.bool true)) b n (updB f k) := by
  obtain ⟨cur, h1, h2⟩ := h
  refine ⟨_, set_heap h1 k _, fun j hj => ?_⟩
  have hkc := (Array.getElem?_eq_some_iff.1 (h2 k hk)).1
  by_cases e : j = k
  · subst e
    rw [updB_self, Array.getElem?_setIfInBounds_self_of_lt hkc]
  · rw [updB_ne f e, Array.getElem?_setIfInBounds_ne (fun e2 => e e2.symm)]
    exact h2 j hj
theorem Arr.ne {w : World} {a b n m : Nat} {f : Nat → Int} {g : Nat → Bool} (h : Arr w a n f) (k : ArrB w b m g) : a ≠ b := fun e => by
  subst e
  obtain ⟨c, h1, _⟩ := h
  obtain ⟨d, k1, _⟩ := k
  rw [h1] at k1
  simp at k1
/-- How many were not seen. -/
def unseen (N : Nat) (seen : Nat → Bool) : Nat := ((List.range N).filter fun j => !seen j).length
theorem unseen_lt {N : Nat} {seen cur : Nat → Bool} {k : Nat} (hm : ∀ j, j < N → seen j = true → cur j = true) (hk : k < N) (hc : cur k = false) : unseen N (updB cur k) < unseen N seen := by
  have hsub : ∀ x ∈ k :: (List.range N).filter (fun j => !updB cur k j), x ∈ (List.range N).filter fun j => !seen j := fun x hx => by
    rcases List.mem_cons.1 hx with e | hx
    · rw [e]
      refine List.mem_filter.2 ⟨List.mem_range.2 hk, ?_⟩
      cases hs : seen k with
      | false => rfl
      | true => rw [hm k hk hs] at hc; cases hc
    · obtain ⟨h1, h2⟩ := List.mem_filter.1 hx
      have hxN := List.mem_range.1 h1
      refine List.mem_filter.2 ⟨h1, ?_⟩
      have e : x ≠ k := fun e => by rw [e, updB_self] at h2; simp at h2
      rw [updB_ne _ e] at h2
      cases hs : seen x with
      | false => rfl
      | true => rw [hm x hxN hs] at h2; simp at h2
  have := nodup_le _ _ (List.nodup_cons.2 ⟨fun hx => by
    have := (List.mem_filter.1 hx).2
    rw [updB_self] at this
    simp at this, List.nodup_range.sublist List.filter_sublist⟩) hsub
  simp only [List.length_cons] at this
  exact this
/-- What a try owes. -/
def TryEnd (N : Nat) (f pair : Nat → Int) (seen : Nat → Bool) (i pb sb : Nat) (w : World) (e : Ending) (w' : World) : Prop :=
  Keeps (fun x => x = pb ∨ x = sb) w w' ∧ ((e = .returned (.bool true) ∧ ∃ pair' seen', Arr w' pb N pair' ∧ ArrB w' sb N seen' ∧ TYes N (In f) pair seen i pair') ∨ (e = .returned (.bool false) ∧ ∃ seen', Arr w' pb N pair ∧ ArrB w' sb N seen' ∧ TNo N (In f) pair seen i seen'))
def TryR (N : Nat) (f pair : Nat → Int) (seen : Nat → Bool) (i pb sb : Nat) (w : World) (iv : Value) (wr : World) : Prop :=
  ∃ (k : Nat) (cur : Nat → Bool), k ≤ N ∧ iv = .int .i64 (k : Int) ∧ Arr wr pb N pair ∧ ArrB wr sb N cur ∧ TTo N (In f) pair seen i k cur ∧ Keeps (fun x => x = pb ∨ x = sb) w wr
def TryC (d : Nat) : Prop := ∀ (w : World) (mb lb lc pb pc sb sc N : Nat) (f pair : Nat → Int) (seen : Nat → Bool) (i : Nat), unseen N seen = d →
    w.heap[mb]? = some (.cells #[.slice (some ⟨lb, 0, none⟩) N lc, .slice (some ⟨pb, 0, none⟩) N pc, .slice (some ⟨sb, 0, none⟩) N sc] 51 (0, 0)) → Arr w lb N f → Small N f → Arr w pb N pair → ArrB w sb N seen → lb ≠ pb → N ≤ 300 → TPre N (In f) pair seen i →
    Calls Try.prog 22 #[.pointer (some ⟨mb, 0, none⟩), .int .i64 (i : Int)] w fun e w' => TryEnd N f pair seen i pb sb w e w'

set_option maxRecDepth 100000 in
set_option maxHeartbeats 8000000 in
theorem try_any (d : Nat) : TryC d := by
  induction d using Nat.strongRecOn with
  | ind d ih =>
  intro w mb lb lc pb pc sb sc N f pair seen i hd hmb hl hsm hp hs hlp hN hpre
  have IH : Hid (∀ m, m < d → TryC m) := ih
  clear ih
  have nls := hl.ne hs
  have nps := hp.ne hs
  have nmp : mb ≠ pb := fun e => by
    obtain ⟨c, h1, _⟩ := hp
    rw [← e, hmb] at h1
    simp at h1
  have nms : mb ≠ sb := fun e => by
    obtain ⟨c, h1, _⟩ := hs
    rw [← e, hmb] at h1
    simp at h1
  have hiN := hpre.lt
  have HS : Hid (TryR N f pair seen i pb sb w (.int .i64 0) w) := ⟨0, seen, Nat.zero_le _, rfl, hp, hs, TTo.start N _ pair seen i, Keeps.refl _ _⟩
  have HE := hide (And.intro hd (And.intro hmb (And.intro hl (And.intro hsm hpre))))
  clear hd hmb hl hsm hp hs hpre
  go_enter Try.func22, Try.ntmps22
  go_wp2_with fail
  go_loopw [5] (fun iv wr => TryR N f pair seen i pb sb w iv wr) (fun iv _ => N - (intOf iv).toNat)
  case atStart => exact unhide HS
  case round =>
    obtain ⟨k, cur, hk, rfl, hp, hs, hto, hK⟩ := hrel
    obtain ⟨hd, hmb, hl, hsm, hpre⟩ := unhide HE
    have hmb2 := hK.same _ _ hmb (fun e => by omega)
    have hl2 := hl.keeps hK (fun e => by omega)
    obtain ⟨c0, c1, c2, d0, d1, d2⟩ := three_cells hmb2
    by_cases hkN : k < N
    · obtain ⟨x0, _⟩ := hl2.cell hiN
      obtain ⟨x1, _⟩ := hl2.cell hkN
      obtain ⟨x2, x3⟩ := hs.cell hkN
      have hz := and_sub (f i) (f k) (hsm i hiN).1 (hsm i hiN).2 (hsm k hkN).1 (hsm k hkN).2
      cases hin : inW f i k with
      | false =>
        have HN : Hid (TryR N f pair seen i pb sb w (.int .i64 ((k + 1 : Nat) : Int)) wr) := ⟨k + 1, cur, by omega, rfl, hp, hs, hto.skip (.inl fun e => by rw [inW_iff.2 e] at hin; cases hin), hK⟩
        have hdec : ((k : Int) == (i : Int)) = true ∨ (((k : Int) == (i : Int)) = false ∧ sub (f i) (f k) = false) := by
          unfold inW at hin
          by_cases e : k = i
          · exact .inl (by simp [e])
          · have : ((i : Int) != (k : Int)) = true := by simp; omega
            rw [this, Bool.true_and] at hin
            exact .inr ⟨by simp; omega, hin⟩
        clear hp hs hto hK hd hmb hl hsm hpre hmb2 hl2 hin
        rcases hdec with h1 | ⟨h1, h2⟩
        · generalize f i = fi at x0 hz
          generalize f k = fk at x1 hz
          generalize cur k = ck at x2
          clear hz
          go_wp2_with fail
          go_quiet (fail)
          go_wp2_with fail
          go_roundw
          case rel =>
            obtain ⟨q1, q2, q3, q4, q5, q6, q7, q8⟩ := unhide HN
            rw [Int.natCast_add] at q4
            exact ⟨q1, q2, q3, q4, q5.keeps (Keeps.drewN (Keeps.refl (fun _ => False) _) _) (fun e => e), q6.keeps (Keeps.drewN (Keeps.refl (fun _ => False) _) _) (fun e => e), q7, q8.drewN _⟩
          case measure => simp [intOf]; omega
        · rw [h2] at hz
          generalize f i = fi at x0 hz
          generalize f k = fk at x1 hz
          generalize cur k = ck at x2
          have hz2 : (bits .and .i64 fi fk != fi) = true := hz
          clear h2 hz
          go_wp2_with fail
          go_quiet (fail)
          go_wp2_with fail
          go_roundw
          case rel =>
            obtain ⟨q1, q2, q3, q4, q5, q6, q7, q8⟩ := unhide HN
            rw [Int.natCast_add] at q4
            exact ⟨q1, q2, q3, q4, q5.keeps (Keeps.drewN (Keeps.refl (fun _ => False) _) _) (fun e => e), q6.keeps (Keeps.drewN (Keeps.refl (fun _ => False) _) _) (fun e => e), q7, q8.drewN _⟩
          case measure => simp [intOf]; omega
      | true =>
        have hIn := inW_iff.1 hin
        have h1 : ((k : Int) == (i : Int)) = false := by
          have := hIn.1
          simp; omega
        rw [hIn.2] at hz
        cases hck : cur k with
        | true =>
          have HN : Hid (TryR N f pair seen i pb sb w (.int .i64 ((k + 1 : Nat) : Int)) wr) := ⟨k + 1, cur, by omega, rfl, hp, hs, hto.skip (.inr hck), hK⟩
          rw [hck] at x2
          generalize f i = fi at x0 hz
          generalize f k = fk at x1 hz
          have hz2 : (bits .and .i64 fi fk != fi) = false := hz
          clear hp hs hto hK hd hmb hl hsm hpre hmb2 hl2 hin hIn hz hck
          go_wp2_with fail
          go_quiet (fail)
          go_wp2_with fail
          go_roundw
          case rel =>
            obtain ⟨q1, q2, q3, q4, q5, q6, q7, q8⟩ := unhide HN
            rw [Int.natCast_add] at q4
            exact ⟨q1, q2, q3, q4, q5.keeps (Keeps.drewN (Keeps.refl (fun _ => False) _) _) (fun e => e), q6.keeps (Keeps.drewN (Keeps.refl (fun _ => False) _) _) (fun e => e), q7, q8.drewN _⟩
          case measure => simp [intOf]; omega
        | false =>
          rw [hck] at x2
          obtain ⟨x4, x5⟩ := hp.cell hkN
          have HI := hide (And.intro hp (And.intro hs (And.intro hto (And.intro hK (And.intro hIn (And.intro hck (And.intro hmb2 hl2)))))))
          generalize hfi : f i = fi at x0 hz
          generalize hfk : f k = fk at x1 hz
          have hz2 : (bits .and .i64 fi fk != fi) = false := hz
          clear hp hs hto hK hd hmb hl hsm hpre hmb2 hl2 hin hIn hz hck hfi hfk
          obtain ⟨pk, hpk⟩ : ∃ pk, pk = pair k := ⟨_, rfl⟩
          rw [← hpk] at x4
          have HPK := hide hpk
          clear hpk
          go_wp2_with fail
          go_quiet (fail)
          obtain ⟨wq, hwq⟩ : ∃ wq, wq = wr.drewN nq := ⟨_, rfl⟩
          have hKq : Keeps (fun _ => False) wr wq := by rw [hwq]; exact Keeps.drewN (Keeps.refl (fun _ => False) _) _
          rw [← hwq]
          clear hwq
          obtain ⟨hp, hs, hto, hK, hIn, hck, hmb2, hl2⟩ := unhide HI
          obtain ⟨hd, _, _, hsm, hpre⟩ := unhide HE
          have hmbq := hKq.same _ _ hmb2 (fun e => e)
          have hpq := hp.keeps hKq (fun e => e)
          have hsq := hs.keeps hKq (fun e => e)
          have hlq := hl2.keeps hKq (fun e => e)
          have hKwq : Keeps (fun x => x = pb ∨ x = sb) w wq := hK.trans hKq (fun _ _ e => e.elim)
          obtain ⟨w6, hw6⟩ : ∃ w6, w6 = wq.setCell ⟨sb, k, none⟩ (.bool true) := ⟨_, rfl⟩
          have hK6 : Keeps (fun x => x = sb) wq w6 := by rw [hw6]; exact (Keeps.refl (fun x => x = sb) wq).setCell ⟨sb, k, none⟩ rfl _
          have hmb6 := hK6.same _ _ hmbq (fun e => by omega)
          have hp6 := hpq.keeps hK6 (fun e => nps e)
          have hl6 := hlq.keeps hK6 (fun e => nls e)
          have hs6 : ArrB w6 sb N (updB cur k) := by rw [hw6]; exact hsq.set hkN
          have hKw6 : Keeps (fun x => x = pb ∨ x = sb) w w6 := hKwq.trans hK6 (fun _ _ e => .inr e)
          obtain ⟨e0, e1, e2, g0, g1, g2⟩ := three_cells hmbq
          obtain ⟨y0, y1⟩ := hsq.cell hkN
          obtain ⟨y2, y3⟩ := hpq.cell hkN
          rw [hck] at y0
          have nsm : sb ≠ mb := fun e => nms e.symm
          have nsp : sb ≠ pb := fun e => nps e.symm
          by_cases hfree : pair k = -1
          · rw [hfree] at y2
            have HF : Hid (TryEnd N f pair seen i pb sb w (.returned (.bool true)) (w6.setCell ⟨pb, k, none⟩ (.int .i64 (i : Int)))) :=
              ⟨hKw6.setCell ⟨pb, k, none⟩ (.inl rfl) _, .inl ⟨rfl, upd pair k i, updB cur k, hp6.set _ hkN, hs6.keeps ((Keeps.refl (fun x => x = pb) w6).setCell ⟨pb, k, none⟩ rfl _) (fun e => nsp e), hto.free hpre hkN hck hIn hfree⟩⟩
            rw [hw6] at HF
            clear hp hs hto hK hIn hck hmb2 hl2 hd hsm hpre hmbq hpq hsq hlq hKwq hw6 hK6 hmb6 hp6 hl6 hs6 hKw6 hfree hKq x0 x1 x2 x3 x4 x5 c0 c1 c2 d0 d1 d2
            go_wp2_with fail
            go_ret
            exact unhide HF
          · obtain ⟨v, hvN, hv, _⟩ := (hpre.ok k hkN).resolve_left hfree
            rw [hv] at y2
            have hrec := unhide IH (unseen N (updB cur k)) (by rw [← hd]; exact unseen_lt hto.mono hkN hck) w6 mb lb lc pb pc sb sc N f pair (updB cur k) v rfl hmb6 hl6 hsm hp6 hs6 hlp hN (hto.pre hpre hkN hck hv)
            have hv0 : ¬ ((v : Int) < 0) := by omega
            have HF := hide (And.intro hto (And.intro hpre (And.intro hck (And.intro hIn (And.intro hv (And.intro hmb6 hKw6))))))
            clear hp hs hto hK hIn hck hmb2 hl2 hd hsm hpre hmbq hpq hsq hlq hKwq hK6 hmb6 hp6 hl6 hs6 hKw6 hfree hKq x0 x1 x2 x3 x4 x5 c0 c1 c2 d0 d1 d2 hv
            subst hw6
            go_wp2_with fail
            refine hrec.mono ?_
            clear hrec
            rintro e w7 ⟨hK7, ⟨rfl, pair1, seen1, hp7, hs7, hy⟩ | ⟨rfl, seen1, hp7, hs7, hno⟩⟩
            · obtain ⟨hto, hpre, hck, hIn, hv, hmb6, hKw6⟩ := unhide HF
              have hmb7 := hK7.same _ _ hmb6 (fun e => by omega)
              obtain ⟨a0, a1, a2, _⟩ := three_cells hmb7
              obtain ⟨b0, b1⟩ := hp7.cell hkN
              have HF7 : Hid (TryEnd N f pair seen i pb sb w (.returned (.bool true)) (w7.setCell ⟨pb, k, none⟩ (.int .i64 (i : Int)))) :=
                ⟨(hKw6.trans hK7 (fun _ _ e => e)).setCell ⟨pb, k, none⟩ (.inl rfl) _, .inl ⟨rfl, upd pair1 k i, seen1, hp7.set _ hkN, hs7.keeps ((Keeps.refl (fun x => x = pb) w7).setCell ⟨pb, k, none⟩ rfl _) (fun e => nsp e), hto.took hpre hkN hck hIn hv hy⟩⟩
              generalize pair1 k = p1 at b0
              clear hto hpre hck hIn hv hmb6 hKw6 hmb7 hK7 hp7 hs7 hy e0 e1 e2 g0 g1 g2 y0 y1 y2 y3
              go_wp2_with fail
              go_ret
              exact unhide HF7
            · obtain ⟨hto, hpre, hck, hIn, hv, hmb6, hKw6⟩ := unhide HF
              have HF7 : Hid (TryR N f pair seen i pb sb w (.int .i64 ((k + 1 : Nat) : Int)) w7) := ⟨k + 1, seen1, by omega, rfl, hp7, hs7, hto.kept hkN hv hno, hKw6.trans hK7 (fun _ _ e => e)⟩
              clear hto hpre hck hIn hv hmb6 hKw6 hK7 hp7 hs7 hno e0 e1 e2 g0 g1 g2 y0 y1 y2 y3
              go_wp2_with fail
              go_roundw
              case rel =>
                have := unhide HF7
                rw [Int.natCast_add] at this
                exact this
              case measure => simp [intOf]; omega
    · have hkN2 : k = N := by omega
      rw [hkN2] at hto
      have HN := hide (And.intro hp (And.intro hs (And.intro hto.done hK)))
      have hnk : ¬ ((k : Int) < (N : Int)) := by omega
      clear hp hs hto hK hd hmb hl hsm hpre hmb2 hl2 hkN2
      go_wp2_with fail
      go_ret
      obtain ⟨hp, hs, hno, hK⟩ := unhide HN
      exact ⟨hK, .inr ⟨rfl, cur, hp, hs, hno⟩⟩
end Go.Proofs.Ytclialdbaclpoaa
