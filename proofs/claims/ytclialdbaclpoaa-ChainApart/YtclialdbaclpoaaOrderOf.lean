/- The walk of orderOf. -/
import Derived.Test.YtclialdbaclpoaaFirsts
import Derived.Test.YtclialdbaclpoaaLooks
import Derived.Laws.MakeOwn
namespace Go.Proofs.Ytclialdbaclpoaa
open Go.RowKit Go.Shelf Go.Maps

theorem full_num (wd : Nat) (h : wd ≤ 8) : wrap64 (wrap64 ((2 : Int) ^ wd) - 1) = ((2 ^ wd - 1 : Nat) : Int) := by
  have := pow_lt wd h
  have h1 : 1 ≤ (2 : Nat) ^ wd := Nat.one_le_two_pow
  rw [pow_wrap wd h]
  generalize 2 ^ wd = p at *
  rw [wrap64]
  omega
/-- Is a column placed? -/
theorem bit_num (s m c : Nat) (hs : s < 256) (hm : m < 256) : (bits .and .i64 (bits .andNot .i64 (s : Int) (m : Int) / 2 ^ c) 1 == 1) = (s.testBit c && !m.testBit c) := by
  rw [andNot_nat s m (by omega) (by omega)]
  have hle : s &&& (18446744073709551615 - m) ≤ s := Nat.and_le_left
  have hb := andNot_bit s m c (by omega) (by omega)
  generalize s &&& (18446744073709551615 - m) = q at hle hb
  rw [← hb]
  have e : ((q : Int) / 2 ^ c) = ((q / 2 ^ c : Nat) : Int) := by
    rw [show ((2 : Int) ^ c) = ((2 ^ c : Nat) : Int) by simp, ← Int.natCast_ediv]
  rw [e]
  have hq : q / 2 ^ c ≤ q := Nat.div_le_self _ _
  have h1 : bits .and .i64 ((q / 2 ^ c : Nat) : Int) 1 = (((q / 2 ^ c) % 2 : Nat) : Int) := by
    show IntKind.i64.wrap ((BitVec.ofInt 64 ((q / 2 ^ c : Nat) : Int) &&& BitVec.ofInt 64 1).toNat : Int) = _
    rw [BitVec.toNat_and, ofInt_u64 _ (by omega), show (BitVec.ofInt 64 1).toNat = 1 from rfl, Nat.and_one_is_mod, IntKind.wrap_i64]
    omega
  rw [h1, Nat.testBit_eq_decide_div_mod_eq, Bool.eq_iff_iff, beq_iff_eq, decide_eq_true_eq]
  omega

/-- The row, and all columns. -/
def ysOf (wd : Nat) (xs : List Int) : List Int := xs ++ [((2 ^ wd - 1 : Nat) : Int)]
structure GrowL (wd : Nat) (xs : List Int) : Prop where
  small : ∀ x ∈ xs, 0 ≤ x ∧ x < ((2 ^ wd : Nat) : Int)
  grow : xs.Pairwise fun a b => sub a b = true
theorem sub_full {wd : Nat} {x : Int} (h : 0 ≤ x ∧ x < ((2 ^ wd : Nat) : Int)) : sub x ((2 ^ wd - 1 : Nat) : Int) = true := by
  refine sub_iff.2 fun i hi => ?_
  rw [Int.toNat_natCast, Nat.testBit_two_pow_sub_one]
  by_cases g : i < wd
  · simpa using g
  · have : x.toNat.testBit i = false := Nat.testBit_lt_two_pow (Nat.lt_of_lt_of_le (show x.toNat < 2 ^ wd by omega) (Nat.pow_le_pow_right (by omega) (by omega)))
    rw [this] at hi; cases hi
theorem GrowL.ys {wd : Nat} {xs : List Int} (h : GrowL wd xs) : (∀ x ∈ ysOf wd xs, 0 ≤ x ∧ x < ((2 ^ wd : Nat) : Int)) ∧ (ysOf wd xs).Pairwise fun a b => sub a b = true := by
  have hp : 1 ≤ 2 ^ wd := Nat.one_le_two_pow
  refine ⟨fun x hx => ?_, ?_⟩
  · rcases List.mem_append.1 hx with g | g
    · exact h.small x g
    · obtain rfl : x = ((2 ^ wd - 1 : Nat) : Int) := by simpa using g
      omega
  · unfold ysOf
    rw [List.pairwise_append]
    refine ⟨h.grow, List.pairwise_singleton _ _, fun a ha b hb => ?_⟩
    obtain rfl : b = ((2 ^ wd - 1 : Nat) : Int) := by simpa using hb
    exact sub_full (h.small a ha)
theorem ys_at {wd : Nat} {xs : List Int} {t : Nat} (h : GrowL wd xs) (ht : t < (ysOf wd xs).length) : ∃ s : Nat, (ysOf wd xs).getD t 0 = s ∧ s < 2 ^ wd ∧ ∀ j, j < t → sub ((ysOf wd xs).getD j 0) ((ysOf wd xs).getD t 0) = true := by
  have h1 := h.ys.1 (ysOf wd xs)[t] (List.getElem_mem ht)
  have e : (ysOf wd xs).getD t 0 = (ysOf wd xs)[t] := by rw [List.getD, List.getElem?_eq_getElem ht]; rfl
  refine ⟨(ysOf wd xs)[t].toNat, by rw [e]; omega, by omega, fun j hj => ?_⟩
  have e2 : (ysOf wd xs).getD j 0 = (ysOf wd xs)[j] := by rw [List.getD, List.getElem?_eq_getElem (show j < (ysOf wd xs).length by omega)]; rfl
  rw [e, e2]
  exact (List.pairwise_iff_getElem.1 h.ys.2) j t (by omega) ht hj
theorem ys_last (wd : Nat) (xs : List Int) : (ysOf wd xs).getD xs.length 0 = ((2 ^ wd - 1 : Nat) : Int) := by
  unfold ysOf
  rw [List.getD, List.getElem?_append_right (Nat.le_refl _)]
  simp
/-- What an order owes to a row. -/
def Serves (wd : Nat) (xs o : List Int) : Prop := right o = true ∧ o.length = wd ∧ ∀ x ∈ xs, coverB o x = true
theorem Srv.serves {wd : Nat} {xs o : List Int} {m : Nat} (hw : wd ≤ 8) (hg : GrowL wd xs) (h : Srv wd (ysOf wd xs) (xs.length + 1) o m) : Serves wd xs o := by
  have hm : m = 2 ^ wd - 1 := by
    rw [h.now, if_neg (by omega), Nat.add_sub_cancel, ys_last, Int.toNat_natCast]
  have ho := h.ord
  rw [hm] at ho
  obtain ⟨h1, h2⟩ := ho.whole hw
  refine ⟨h1, h2, fun x hx => ?_⟩
  obtain ⟨j, hj, rfl⟩ := List.getElem_of_mem hx
  obtain ⟨n, n1, n2⟩ := h.all j (by omega)
  have e : (ysOf wd xs).getD j 0 = xs[j] := by
    unfold ysOf
    rw [List.getD, List.getElem?_append_left hj, List.getElem?_eq_getElem hj]; rfl
  rw [e] at n2
  have := (hg.small _ (List.getElem_mem hj)).1
  exact (cover_yes h1 n1 (by omega)).2

/-- Behind t searches. -/
def OoR (wd : Nat) (xs : List Int) (B : Nat) (O : Nat → Prop) (w3 : World) (ov mv i : Value) (wr : World) : Prop := ∃ (t m : Nat) (o : List Int), t ≤ (ysOf wd xs).length ∧ i = .int .i64 (t : Int) ∧ mv = .int .i64 (m : Int) ∧ OwnI B wr ov o ∧ Srv wd (ysOf wd xs) t o m ∧ (∀ b, some b = ov.ownBlock → O b) ∧ Keeps O w3 wr
/-- Behind c columns. -/
def OcR (wd : Nat) (o : List Int) (m s : Nat) (B : Nat) (O : Nat → Prop) (w3 : World) (ov i : Value) (wr : World) : Prop := ∃ (c : Nat) (o' : List Int), c ≤ wd ∧ i = .int .i64 (c : Int) ∧ OwnI B wr ov o' ∧ Plc wd o m s c o' ∧ (∀ b, some b = ov.ownBlock → O b) ∧ Keeps O w3 wr

set_option maxRecDepth 100000 in
set_option maxHeartbeats 8000000 in
theorem orderOf_any (base : Nat) (w : World) (wd : Nat) (rv : Value) (xs : List Int) (hw : wd ≤ 8) (hr : OwnI base w rv xs) (hg : GrowL wd xs) (hn : xs.length ≤ 300) (hbase : base ≤ w.heap.size) :
    Calls Try.prog 23 #[.int .i64 (wd : Int), rv] w fun e w' => ∃ r o, e = .returned r ∧ OwnI w.heap.size w' r o ∧ Serves wd xs o ∧ Keeps (fun b => some b = rv.ownBlock) w w' := by
  obtain ⟨i0, hi0, hz0, hz1, hz2⟩ := infoI
  have ht : Try.prog.underlying 22 = some (.slice 3) := by kernel_rfl
  obtain ⟨w1, hmk, hown1, hgr1⟩ := run_make_own (P := Try.prog) w w.heap.size 22 3 i0 (.int .i64 0) 1 ht hi0 hz0 hz1 .i64 .i64 wd (by rw [hz2]; omega) (by unfold maxLen; omega) (Nat.le_refl _)
  have hK1 : Keeps (fun _ => False) w w1 := ⟨hgr1.os, hgr1.tape, hgr1.output, hgr1.size, fun b o hb _ => (hgr1.block b (lt_heap hb) (fun e => by cases e)).trans hb⟩
  have hr1 : OwnI base w1 rv xs := hr.keeps hK1 (fun _ _ e => e)
  have hs1 := hgr1.size
  obtain ⟨r2, w2, hrun, hown2, hK2, hr2⟩ := app1_run w1 rv xs (((2 ^ wd - 1 : Nat) : Int)) hr1 (by omega) (by omega)
  have hob := hr.block
  have hg1 : w.heap.size < w1.heap.size := by
    rcases hown1.2 with ⟨h', _⟩ | ⟨g, cap, cur, h', _, h3, _⟩
    · simp at h'
    · simp only [Value.slice.injEq, Option.some.injEq, Addr.mk.injEq] at h'
      rw [h'.1.1]
      exact lt_heap h3
  have hown0 : OwnI w.heap.size w2 (.slice (some ⟨w.heap.size, 0, none⟩) 0 wd) [] := OwnI.keeps (l := []) hown1 hK2 (fun b hb e => by
    simp only [Value.ownBlock, Option.some.injEq] at hb
    have := (hob b e).2
    omega)
  have hy : ∀ j, j < (ysOf wd xs).length → ∃ g c, r2 = .slice (some ⟨g, 0, none⟩) (ysOf wd xs).length c ∧ w2.cell? ⟨g, j, none⟩ = some (.int .i64 ((ysOf wd xs).getD j 0)) ∧ some g = r2.ownBlock := fun j hj => by
    obtain ⟨g, c, e, _⟩ := hown2.shape (by simp)
    have := (e ▸ hown2).cell (j := j) hj
    refine ⟨g, c, e, ?_, by rw [e]; rfl⟩
    rw [this.1, List.getD, List.getElem?_eq_getElem hj]
    rfl
  obtain ⟨rg, rc, er2, _, hrg2, _⟩ := hown2.shape (by simp)
  have hrg3 : rg ≠ w.heap.size := fun e => by
    have := hr2 rg (by rw [er2]; rfl)
    rcases this with h | h
    · have := (hob rg h).2; omega
    · omega
  have hlen : (xs ++ [((2 ^ wd - 1 : Nat) : Int)]).length = xs.length + 1 := by simp
  rw [hlen] at er2
  subst er2
  obtain ⟨O, hO⟩ : ∃ O : Nat → Prop, O = fun b => b = w.heap.size ∨ w2.heap.size ≤ b := ⟨_, rfl⟩
  have HY : Hid (∀ j, j < xs.length + 1 → w2.cell? ⟨rg, j, none⟩ = some (.int .i64 ((ysOf wd xs).getD j 0))) := fun j hj => by
    obtain ⟨g, c, e, h1, _⟩ := hy j (by unfold ysOf; rw [hlen]; exact hj)
    simp only [Value.slice.injEq, Option.some.injEq, Addr.mk.injEq] at e
    rw [e.1.1]; exact h1
  have HS : Hid (OoR wd xs w.heap.size O w2 (.slice (some ⟨w.heap.size, 0, none⟩) 0 wd) (.int .i64 0) (.int .i64 0) w2) := ⟨0, 0, [], Nat.zero_le _, rfl, rfl, hown0, Srv.start wd _, fun b hb => by rw [hO]; simp only [Value.ownBlock, Option.some.injEq] at hb; exact .inl hb, Keeps.refl _ _⟩
  have hs2 := hK2.size
  have HK : Hid (Keeps (fun b => some b = rv.ownBlock) w w2) := (hK1.mono (fun _ e => e.elim)).trans hK2 (fun _ _ e => e)
  obtain ⟨va, vn, vc, rfl⟩ : ∃ va vn vc, rv = .slice va vn vc := by
    rcases hr.2 with ⟨e, _⟩ | ⟨g, cap, cur, e, _⟩
    · exact ⟨_, _, _, e⟩
    · exact ⟨_, _, _, e⟩
  have HRUN := hide hrun
  have hfn := full_num wd hw
  have HO := hide hO
  clear hown1 hgr1 hK1 hr hr1 hown2 hK2 hr2 hob hown0 hy hrun hi0 hz0 hz1 hz2 ht hO hlen
  go_enter Try.func23, Try.ntmps23
  go_wp2_with (at_builtin; refine wpList_append_run _ rfl _ _ 22 rfl _ _ rfl rfl _ _ (unhide HRUN) ?_)
  obtain ⟨D, hD⟩ : ∃ D, D = w.heap.size := ⟨_, rfl⟩
  have HD := hide hD
  rw [← hD] at HS hrg3 hs1 hg1 ⊢
  clear hD
  go_loopw [5, 6, 19] (fun ov mv i wr => OoR wd xs D O w2 ov mv i wr) (fun _ _ i _ => xs.length + 1 - (intOf i).toNat)
  case atStart => exact unhide HS
  case round =>
    rename World => Wo
    obtain ⟨t, m, o, htl, rfl, rfl, hown, hsrv, hOO, hK⟩ := hrel
    have hyl : (ysOf wd xs).length = xs.length + 1 := by simp [ysOf]
    have hos : ∃ va vn vc, u5 = .slice va vn vc := by
      rcases hown.2 with ⟨e, _⟩ | ⟨g, cap, cur, e, _⟩
      · exact ⟨_, _, _, e⟩
      · exact ⟨_, _, _, e⟩
    rw [hyl] at htl
    by_cases htn : t < xs.length + 1
    · obtain ⟨s, es, hs, hgr⟩ := ys_at hg (by rw [hyl]; exact htn)
      have hc0 := hK.cell (unhide HY t htn) (fun e => by rw [unhide HO] at e; simp only at e; have := unhide HD; omega)
      rw [es] at hc0
      have htn3 : (t : Int) < (xs.length : Int) + 1 := by omega
      have h256 : s < 256 := Nat.lt_of_lt_of_le hs (pow_lt wd hw)
      have hm256 : m < 256 := by
        rw [← hsrv.ord.set]
        exact mask_lt o (fun x hx => by have := hsrv.ord.lt x hx; simp [inB]; omega)
      have HS0 : Hid (OcR wd o m s D O w2 u5 (.int .i64 0) Wo) := ⟨0, o, Nat.zero_le _, rfl, hown, Plc.start hsrv.ord, hOO, hK⟩
      have HE := hide (And.intro hsrv (And.intro es (And.intro hs hgr)))
      obtain ⟨va, vn, vc, rfl⟩ := hos
      clear hown hsrv hOO hK es hs hgr hyl
      go_wp2_with fail
      go_loopw [5, 24] (fun ov i wr => OcR wd o m s D O w2 ov i wr) (fun _ i _ => wd - (intOf i).toNat)
      case atStart => exact unhide HS0
      case round =>
        obtain ⟨c, o2, hc, rfl, hown, hpl, hOO, hK⟩ := hrel
        obtain ⟨va, vn, vc, hos⟩ : ∃ va vn vc, u5 = .slice va vn vc := by
          rcases hown.2 with ⟨e, _⟩ | ⟨g, cap, cur, e, _⟩
          · exact ⟨_, _, _, e⟩
          · exact ⟨_, _, _, e⟩
        by_cases hcw : c < wd
        · have hbn := bit_num s m c h256 hm256
          have hpl8 := hpl.len
          have hKs := hK.size
          cases hbit : (s.testBit c && !m.testBit c) with
          | true =>
            rw [hbit] at hbn
            obtain ⟨r7, w7, hrun7, hown7, hK7, hr7⟩ := app1_run wr _ _ (c : Int) hown (by have := unhide HD; omega) (by omega)
            simp only [Bool.and_eq_true, Bool.not_eq_true'] at hbit
            have HN : Hid (OcR wd o m s D O w2 r7 (.int .i64 ((c + 1 : Nat) : Int)) w7) := ⟨c + 1, _, by omega, rfl, hown7, hpl.yes hcw hbit.1 hbit.2, fun b hb => (hr7 b hb).elim (hOO b) (fun h => by rw [unhide HO]; exact .inr (by omega)), hK.trans hK7 (fun b _ e => hOO b e)⟩
            have HRUN7 := hide hrun7
            subst hos
            clear hown hpl hOO hK hrun7 hown7 hK7 hr7 hbit
            go_wp2_with (at_builtin; refine wpList_append_run _ rfl _ _ 22 rfl _ _ rfl rfl _ _ (unhide HRUN7) ?_)
            go_roundw
            case rel =>
              have := unhide HN
              rw [Int.natCast_add] at this
              exact this
            case measure => simp [intOf]; omega
          | false =>
            rw [hbit] at hbn
            have HN : Hid (OcR wd o m s D O w2 u5 (.int .i64 ((c + 1 : Nat) : Int)) wr) := ⟨c + 1, _, by omega, rfl, hown, hpl.no hbit, hOO, hK⟩
            clear hown hpl hOO hK hbit hos
            go_wp2_with fail
            go_roundw
            case rel =>
              have := unhide HN
              rw [Int.natCast_add] at this
              exact this
            case measure => simp [intOf]; omega
        · have hcw2 : c = wd := by omega
          rw [hcw2] at hpl
          have hor := or_nat m s (by omega) (by omega)
          obtain ⟨hsrv, es, hs, hgr⟩ := unhide HE
          have hsv := hsrv.step hpl hs (by rw [es]; simp) hgr
          have HN : Hid (OoR wd xs D O w2 u5 (.int .i64 ((m ||| s : Nat) : Int)) (.int .i64 ((t + 1 : Nat) : Int)) wr) := ⟨t + 1, m ||| s, o2, by simp [ysOf]; omega, rfl, rfl, hown, hsv, hOO, hK⟩
          subst hos
          clear hown hpl hOO hK hsrv es hs hgr hsv hcw2
          go_wp2_with fail
          refine ⟨?_, ?_⟩
          · have := unhide HN
            rw [Int.natCast_add] at this
            exact this
          · simp [intOf]; omega
    · have htn2 : t = xs.length + 1 := by omega
      rw [htn2] at hsrv
      have HE := hide (And.intro hown (And.intro (hsrv.serves hw hg) hK))
      obtain ⟨va, vn, vc, rfl⟩ := hos
      clear hown hsrv hOO hK htn2 hyl
      go_wp2_with fail
      go_ret
      obtain ⟨hown, hserv, hK⟩ := unhide HE
      refine ⟨_, o, rfl, by rw [← unhide HD]; exact hown, hserv, (unhide HK).trans hK (fun b hb e => ?_)⟩
      rw [unhide HO] at e
      have := (unhide HK).size
      omega
end Go.Proofs.Ytclialdbaclpoaa
