/- Walks of within and of giveWay. -/
import Derived.Test.YtclialdbaclpoaaBase
import Derived.Laws.BitsAllLaws
namespace Go.Proofs.Ytclialdbaclpoaa
open Go.RowKit Go.Shelf Go.Maps

theorem andNot_nat (a b : Nat) (ha : a < 4611686018427387904) (hb : b < 4611686018427387904) : bits .andNot .i64 (a : Int) (b : Int) = ((a &&& (18446744073709551615 - b) : Nat) : Int) := by
  have hx : a &&& (18446744073709551615 - b) ≤ a := Nat.and_le_left
  show IntKind.i64.wrap ((BitVec.ofInt 64 (a : Int) &&& ~~~BitVec.ofInt 64 (b : Int)).toNat : Int) = _
  rw [BitVec.toNat_and, BitVec.toNat_not, ofInt_u64 a (by omega), ofInt_u64 b (by omega), IntKind.wrap_i64]
  have e : 2 ^ 64 - 1 - b = 18446744073709551615 - b := by omega
  rw [e]
  omega
theorem andNot_bit (a b i : Nat) (ha : a < 4611686018427387904) (hb : b < 4611686018427387904) : (a &&& (18446744073709551615 - b)).testBit i = (a.testBit i && !b.testBit i) := by
  have e : 18446744073709551615 - b = 2 ^ 64 - (b + 1) := by omega
  rw [Nat.testBit_and, e, Nat.testBit_two_pow_sub_succ (by omega)]
  by_cases h : i < 64
  · simp [h]
  · have : a.testBit i = false := Nat.testBit_lt_two_pow (Nat.lt_of_lt_of_le ha (Nat.le_trans (by decide : (4611686018427387904 : Nat) ≤ 2 ^ 64) (Nat.pow_le_pow_right (by omega) (by omega))))
    simp [this]
theorem andNot_zero (a b : Int) (h0 : 0 ≤ a) (h1 : a < 256) (h2 : 0 ≤ b) (h3 : b < 256) : (bits .andNot .i64 a b == 0) = sub a b := by
  obtain ⟨A, rfl⟩ := Int.eq_ofNat_of_zero_le h0
  obtain ⟨B, rfl⟩ := Int.eq_ofNat_of_zero_le h2
  rw [andNot_nat A B (by omega) (by omega), Bool.eq_iff_iff, sub_iff, beq_iff_eq]
  simp only [Int.toNat_natCast]
  constructor
  · intro h i hi
    have h4 : A &&& (18446744073709551615 - B) = 0 := by omega
    have h5 := andNot_bit A B i (by omega) (by omega)
    rw [h4, Nat.zero_testBit, hi] at h5
    simpa using h5
  · intro h
    have h4 : A &&& (18446744073709551615 - B) = 0 := Nat.eq_of_testBit_eq fun i => by
      rw [andNot_bit A B i (by omega) (by omega), Nat.zero_testBit]
      cases hi : A.testBit i with
      | false => rfl
      | true => rw [h i hi]; rfl
    omega

/-- Is one within another one? -/
def inW (f : Nat → Int) (i k : Nat) : Bool := (((i : Int) != (k : Int))) && sub (f i) (f k)
theorem inW_iff {f : Nat → Int} {i k : Nat} : inW f i k = true ↔ In f i k := by
  unfold inW In
  rw [Bool.and_eq_true, bne_iff_ne]
  exact ⟨fun h => ⟨fun e => h.1 (by rw [e]), h.2⟩, fun h => ⟨fun e => h.1 (by omega), h.2⟩⟩
/-- Searches of at most eight columns. -/
def Small (N : Nat) (f : Nat → Int) : Prop := ∀ j, j < N → 0 ≤ f j ∧ f j < 256

set_option maxRecDepth 100000 in
set_option maxHeartbeats 4000000 in
theorem within_any (w : World) (sb N sc : Nat) (av bv : Value) (aa ba : Option Addr) (an ac bn bc : Nat) (ea : av = .slice aa an ac) (eb : bv = .slice ba bn bc) (f : Nat → Int) (h : Arr w sb N f) (hs : Small N f) (lo hi : Nat) (hl : lo < N) (hh : hi < N) :
    Calls Try.prog 38 #[.agg #[.slice (some ⟨sb, 0, none⟩) N sc, av, bv], .int .i64 (lo : Int), .int .i64 (hi : Int)] w fun e w' => e = .returned (.bool (inW f lo hi)) ∧ Below w.heap.size w w' := by
  subst ea eb
  obtain ⟨w1, hw1⟩ : ∃ w1, w1 = w.alloc (.cells #[.slice (some ⟨sb, 0, none⟩) N sc, .slice aa an ac, .slice ba bn bc] 44) := ⟨_, rfl⟩
  have b1 : Below w.heap.size w w1 := by rw [hw1]; exact (Below.refl _ w).alloc (Nat.le_refl _) _
  have hnw : w1.heap[w.heap.size]? = some (.cells #[.slice (some ⟨sb, 0, none⟩) N sc, .slice aa an ac, .slice ba bn bc] 44 (0, 0)) := by rw [hw1]; exact World.alloc_heap_new _ _
  obtain ⟨c0, c1, c2, _⟩ := three_cells hnw
  have x1 := ((h.later b1).cell hl).1
  have x2 := ((h.later b1).cell hh).1
  have hz := andNot_zero (f lo) (f hi) (hs lo hl).1 (hs lo hl).2 (hs hi hh).1 (hs hi hh).2
  have HB := hide b1
  clear hs h hnw b1
  cases e1 : ((lo : Int) != (hi : Int)) with
  | false =>
    have E : Hid (inW f lo hi = false) := by show _ = _; rw [inW, e1]; rfl
    generalize f lo = x at x1 hz
    generalize f hi = y at x2 hz
    go_enter Try.func38, Try.ntmps38
    go_wp2_with fail
    rw [← hw1]
    clear hw1
    go_quiet (fail)
    go_wp2_with fail
    go_ret
    exact ⟨ret_bool (unhide E).symm, below_drewN (unhide HB) _⟩
  | true =>
    have E : Hid (inW f lo hi = sub (f lo) (f hi)) := by show _ = _; rw [inW, e1]; rfl
    rw [← hz] at E
    clear hz
    generalize f lo = x at x1 E
    generalize f hi = y at x2 E
    go_enter Try.func38, Try.ntmps38
    go_wp2_with fail
    rw [← hw1]
    clear hw1
    go_quiet (fail)
    go_wp2_with fail
    go_ret
    exact ⟨ret_bool (unhide E).symm, below_drewN (unhide HB) _⟩

/-- A struct of three rows, boxed. -/
theorem box3 (w : World) (x y z : Value) (t : TypeId) : Below w.heap.size w (w.alloc (.cells #[x, y, z] t)) ∧ (w.alloc (.cells #[x, y, z] t)).heap[w.heap.size]? = some (.cells #[x, y, z] t (0, 0)) ∧ (w.alloc (.cells #[x, y, z] t)).heap.size = w.heap.size + 1 :=
  ⟨(Below.refl _ w).alloc (Nat.le_refl _) _, World.alloc_heap_new _ _, by simp⟩

/-- While they give way. -/
def GRel (N : Nat) (E : Nat → Nat → Prop) (ab0 be0 asd : Nat → Int) (low : Nat) (rk : Nat → Nat) (A B : Nat → Prop) (w : World) (a b kb : Nat) (hv : Value) (wr : World) : Prop :=
  ∃ ab be, Arr wr a N ab ∧ Arr wr b N be ∧ Arr wr kb N asd ∧ Keeps (fun x => x = a ∨ x = b) w wr ∧ ((hv = .int .i64 (-1) ∧ Done N E ab be (low + 1)) ∨ ∃ k : Nat, hv = .int .i64 (k : Int) ∧ Give N E ab0 be0 asd low rk A B ab be k)
def gMeas (rk : Nat → Nat) (v : Value) : Nat := if intOf v = -1 then 0 else rk (intOf v).toNat + 1

set_option maxRecDepth 100000 in
set_option maxHeartbeats 4000000 in
theorem giveWay_any (w : World) (sv : Value) (sa : Option Addr) (sn sc : Nat) (es : sv = .slice sa sn sc) (a b kb N ac bc kc : Nat) (E : Nat → Nat → Prop) (ab0 be0 asd : Nat → Int) (low : Nat) (rk : Nat → Nat) (A B : Nat → Prop) (k : Nat)
    (ha : Arr w a N ab0) (hb : Arr w b N be0) (hk : Arr w kb N asd) (n1 : a ≠ b) (n2 : kb ≠ a) (n3 : kb ≠ b)
    (g : Give N E ab0 be0 asd low rk A B ab0 be0 k) (hlow : low < N) (p : PM N E ab0 be0) (hD : Dead N E be0 A B) (h3 : ∀ i, i < low → ab0 i = -1 → A i) (h4 : ∀ i, low ≤ i → i < N → ab0 i = -1)
    (hask2 : ∀ h, h < N → asd h ≠ -1 → be0 h ≠ -1 → ∃ v : Nat, v < N ∧ asd h = v ∧ E v h ∧ (v = low ∨ ∃ j : Nat, j < N ∧ be0 j = v ∧ asd j ≠ -1 ∧ rk j < rk h)) :
    Calls Try.prog 39 #[.agg #[sv, .slice (some ⟨a, 0, none⟩) N ac, .slice (some ⟨b, 0, none⟩) N bc], .slice (some ⟨kb, 0, none⟩) N kc, .int .i64 (k : Int)] w fun e w' => e = .returned (.tuple #[]) ∧ Keeps (fun x => x = a ∨ x = b) w w' ∧ ∃ ab be, Arr w' a N ab ∧ Arr w' b N be ∧ Done N E ab be (low + 1) := by
  subst es
  obtain ⟨b1, hnw, hs1⟩ := box3 w (.slice sa sn sc) (.slice (some ⟨a, 0, none⟩) N ac) (.slice (some ⟨b, 0, none⟩) N bc) 44
  obtain ⟨w1, hw1⟩ : ∃ w1, w1 = w.alloc (.cells #[.slice sa sn sc, .slice (some ⟨a, 0, none⟩) N ac, .slice (some ⟨b, 0, none⟩) N bc] 44) := ⟨_, rfl⟩
  rw [← hw1] at b1 hnw hs1
  have HS : Hid (GRel N E ab0 be0 asd low rk A B w1 a b kb (.int .i64 (k : Int)) w1) := ⟨ab0, be0, ha.later b1, hb.later b1, hk.later b1, Keeps.refl _ _, .inr ⟨k, rfl, g⟩⟩
  have la := ha.lt
  have lb := hb.lt
  have HX := hide (And.intro p (And.intro hD (And.intro h3 (And.intro h4 hask2))))
  have HB := hide b1
  clear ha hb hk g p hD h3 h4 hask2 b1
  go_enter Try.func39, Try.ntmps39
  go_wp2_with fail
  rw [← hw1]
  clear hw1
  go_loopw [2] (fun hv wr => GRel N E ab0 be0 asd low rk A B w1 a b kb hv wr) (fun hv _ => gMeas rk hv)
  case atStart => exact unhide HS
  case round =>
    obtain ⟨ab, be, ra, rb, rk2, hK, hcase⟩ := hrel
    have hbx := hK.same _ _ hnw (fun e => by omega)
    obtain ⟨c0, c1, c2, _⟩ := three_cells hbx
    rcases hcase with ⟨rfl, hd⟩ | ⟨q, rfl, hg⟩
    · have HD := hide (And.intro ra (And.intro rb (And.intro hK hd)))
      clear ra rb rk2 hK hd hbx
      go_wp2_with fail
      refine bodyPost_end (results_none rfl _ _ _) rfl ?_
      obtain ⟨ra, rb, hK, hd⟩ := unhide HD
      exact ⟨rfl, (Keeps.of_below (unhide HB)).trans hK (fun _ _ e => e), ab, be, ra, rb, hd⟩
    · obtain ⟨v, v1, v2, v3, v4⟩ := hg.ask
      have hq := hg.lt
      have x1 := (rk2.cell hq).1
      rw [v2] at x1
      have x2 := (ra.cell v1).1
      have x3 := (ra.cell v1).2
      have x4 := (rb.cell hq)
      have hq1 : (((q : Int)) != -1) = true := by simp
      have na : a ≠ w.heap.size := by omega
      have nb : b ≠ w.heap.size := by omega
      obtain ⟨had, hhad⟩ : ∃ had, had = ab v := ⟨_, rfl⟩
      rw [← hhad] at x2
      have HH := hide hhad
      have HG := hide (And.intro ra (And.intro rb (And.intro rk2 (And.intro hK (And.intro hg v2)))))
      obtain ⟨y4, y5⟩ := x4
      generalize be q = bq at y4
      have hvN : (v : Int) < (N : Int) := by omega
      clear ra rb rk2 hK hg v2 hhad v3 v4 hbx
      go_wp2_with fail
      go_region
      go_wp2_with fail
      obtain ⟨ra, rb, rk2, hK, hg, v2⟩ := unhide HG
      obtain ⟨p, hD, h3, h4, hask2⟩ := unhide HX
      have ra2 := ((ra.set (q : Int) v1).other ⟨b, q, none⟩ (.int .i64 (v : Int)) (fun e => n1 e.symm)).keeps (Keeps.drew (Keeps.refl (fun _ => False) _)) (fun e => e)
      have rb2 := ((rb.other ⟨a, v, none⟩ (.int .i64 (q : Int)) n1).set (v : Int) hq).keeps (Keeps.drew (Keeps.refl (fun _ => False) _)) (fun e => e)
      have rk3 := ((rk2.other ⟨a, v, none⟩ (.int .i64 (q : Int)) (fun e => n2 e.symm)).other ⟨b, q, none⟩ (.int .i64 (v : Int)) (fun e => n3 e.symm)).keeps (Keeps.drew (Keeps.refl (fun _ => False) _)) (fun e => e)
      have hK2 := ((hK.setCell ⟨a, v, none⟩ (.inl rfl) (.int .i64 (q : Int))).setCell ⟨b, q, none⟩ (.inr rfl) (.int .i64 (v : Int))).drew
      go_roundw
      case rel =>
        refine ⟨upd ab v q, upd be q v, ra2, rb2, rk3, hK2, ?_⟩
        by_cases hv : v = low
        · subst hv
          refine .inl ⟨?_, hg.last hlow hD h3 h4 v2⟩
          rw [unhide HH, hg.lone]
        · obtain ⟨j, j1, j2, j3, j4⟩ := hg.next p hD (fun h hh ha hn hb => hask2 h hh ha hb) v2 hv
          exact .inr ⟨j, by rw [unhide HH, j2], j4⟩
      case measure =>
        by_cases hv : v = low
        · subst hv
          rw [unhide HH, hg.lone]
          simp [gMeas, intOf] <;> omega
        · obtain ⟨j, j1, j2, j3, j4⟩ := hg.next p hD (fun h hh ha hn hb => hask2 h hh ha hb) v2 hv
          rw [unhide HH, j2]
          simp [gMeas, intOf] <;> omega
end Go.Proofs.Ytclialdbaclpoaa
