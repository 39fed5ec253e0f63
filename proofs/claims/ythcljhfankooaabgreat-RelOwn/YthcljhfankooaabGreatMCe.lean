/- The walk of orderOf. Walks of Orders and Least. The walk of Orders. Orders that is refused. -/
import Derived.Test.YthcljhfankooaabGreatMCc
import Derived.Test.YthcljhfankooaabGreatMCd
import Derived.Laws.MakeOwn
namespace Go.Proofs.YthcljhfankooaabGreat.C
open Go.RowKit Go.Shelf Go.Maps

theorem full_num (wd : Nat) (h : wd ≤ 8) : wrap64 (wrap64 ((2 : Int) ^ wd) - 1) = ((2 ^ wd - 1 : Nat) : Int) := by
  have := pow_lt wd h
  have h1 : 1 ≤ (2 : Nat) ^ wd := Nat.one_le_two_pow
  rw [pow_wrap wd h]
  generalize 2 ^ wd = p at *
  rw [wrap64]
  omega
/-- Is a column placed? -/
theorem bit_num (s m c : Nat) (hs : s < 256) (hm : m < 256) : (bits .and .i64 (bits .andNot .i64 (s : Int) (m : Int) / 2 ^ c) 1 == 1) = (s.testBit c && !m.testBit c) := by
  rw [andNot_nat s m (by omega) (by omega)]
  have hle : s &&& (18446744073709551615 - m) ≤ s := Nat.and_le_left
  have hb := andNot_bit s m c (by omega) (by omega)
  generalize s &&& (18446744073709551615 - m) = q at hle hb
  rw [← hb]
  have e : ((q : Int) / 2 ^ c) = ((q / 2 ^ c : Nat) : Int) := by
    rw [show ((2 : Int) ^ c) = ((2 ^ c : Nat) : Int) by simp, ← Int.natCast_ediv]
  rw [e]
  have hq : q / 2 ^ c ≤ q := Nat.div_le_self _ _
  have h1 : bits .and .i64 ((q / 2 ^ c : Nat) : Int) 1 = (((q / 2 ^ c) % 2 : Nat) : Int) := by
    show IntKind.i64.wrap ((BitVec.ofInt 64 ((q / 2 ^ c : Nat) : Int) &&& BitVec.ofInt 64 1).toNat : Int) = _
    rw [BitVec.toNat_and, ofInt_u64 _ (by omega), show (BitVec.ofInt 64 1).toNat = 1 from rfl, Nat.and_one_is_mod, IntKind.wrap_i64]
    omega
  rw [h1, Nat.testBit_eq_decide_div_mod_eq, Bool.eq_iff_iff, beq_iff_eq, decide_eq_true_eq]
  omega

/-- The row, and all columns. -/
def ysOf (wd : Nat) (xs : List Int) : List Int := xs ++ [((2 ^ wd - 1 : Nat) : Int)]
structure GrowL (wd : Nat) (xs : List Int) : Prop where
  small : ∀ x ∈ xs, 0 ≤ x ∧ x < ((2 ^ wd : Nat) : Int)
  grow : xs.Pairwise fun a b => sub a b = true
theorem sub_full {wd : Nat} {x : Int} (h : 0 ≤ x ∧ x < ((2 ^ wd : Nat) : Int)) : sub x ((2 ^ wd - 1 : Nat) : Int) = true := by
  refine sub_iff.2 fun i hi => ?_
  rw [Int.toNat_natCast, Nat.testBit_two_pow_sub_one]
  by_cases g : i < wd
  · simpa using g
  · have : x.toNat.testBit i = false := Nat.testBit_lt_two_pow (Nat.lt_of_lt_of_le (show x.toNat < 2 ^ wd by omega) (Nat.pow_le_pow_right (by omega) (by omega)))
    rw [this] at hi; cases hi
theorem GrowL.ys {wd : Nat} {xs : List Int} (h : GrowL wd xs) : (∀ x ∈ ysOf wd xs, 0 ≤ x ∧ x < ((2 ^ wd : Nat) : Int)) ∧ (ysOf wd xs).Pairwise fun a b => sub a b = true := by
  have hp : 1 ≤ 2 ^ wd := Nat.one_le_two_pow
  refine ⟨fun x hx => ?_, ?_⟩
  · rcases List.mem_append.1 hx with g | g
    · exact h.small x g
    · obtain rfl : x = ((2 ^ wd - 1 : Nat) : Int) := by simpa using g
      omega
  · unfold ysOf
    rw [List.pairwise_append]
    refine ⟨h.grow, List.pairwise_singleton _ _, fun a ha b hb => ?_⟩
    obtain rfl : b = ((2 ^ wd - 1 : Nat) : Int) := by simpa using hb
    exact sub_full (h.small a ha)
theorem ys_at {wd : Nat} {xs : List Int} {t : Nat} (h : GrowL wd xs) (ht : t < (ysOf wd xs).length) : ∃ s : Nat, (ysOf wd xs).getD t 0 = s ∧ s < 2 ^ wd ∧ ∀ j, j < t → sub ((ysOf wd xs).getD j 0) ((ysOf wd xs).getD t 0) = true := by
  have h1 := h.ys.1 (ysOf wd xs)[t] (List.getElem_mem ht)
  have e : (ysOf wd xs).getD t 0 = (ysOf wd xs)[t] := by rw [List.getD, List.getElem?_eq_getElem ht]; rfl
  refine ⟨(ysOf wd xs)[t].toNat, by rw [e]; omega, by omega, fun j hj => ?_⟩
  have e2 : (ysOf wd xs).getD j 0 = (ysOf wd xs)[j] := by rw [List.getD, List.getElem?_eq_getElem (show j < (ysOf wd xs).length by omega)]; rfl
  rw [e, e2]
  exact (List.pairwise_iff_getElem.1 h.ys.2) j t (by omega) ht hj
theorem ys_last (wd : Nat) (xs : List Int) : (ysOf wd xs).getD xs.length 0 = ((2 ^ wd - 1 : Nat) : Int) := by
  unfold ysOf
  rw [List.getD, List.getElem?_append_right (Nat.le_refl _)]
  simp
/-- What an order owes to a row. -/
def Serves (wd : Nat) (xs o : List Int) : Prop := right o = true ∧ o.length = wd ∧ ∀ x ∈ xs, coverB o x = true
theorem Srv.serves {wd : Nat} {xs o : List Int} {m : Nat} (hw : wd ≤ 8) (hg : GrowL wd xs) (h : Srv wd (ysOf wd xs) (xs.length + 1) o m) : Serves wd xs o := by
  have hm : m = 2 ^ wd - 1 := by
    rw [h.now, if_neg (by omega), Nat.add_sub_cancel, ys_last, Int.toNat_natCast]
  have ho := h.ord
  rw [hm] at ho
  obtain ⟨h1, h2⟩ := ho.whole hw
  refine ⟨h1, h2, fun x hx => ?_⟩
  obtain ⟨j, hj, rfl⟩ := List.getElem_of_mem hx
  obtain ⟨n, n1, n2⟩ := h.all j (by omega)
  have e : (ysOf wd xs).getD j 0 = xs[j] := by
    unfold ysOf
    rw [List.getD, List.getElem?_append_left hj, List.getElem?_eq_getElem hj]; rfl
  rw [e] at n2
  have := (hg.small _ (List.getElem_mem hj)).1
  exact (cover_yes h1 n1 (by omega)).2

/-- Behind t searches. -/
def OoR (wd : Nat) (xs : List Int) (B : Nat) (O : Nat → Prop) (w3 : World) (ov mv i : Value) (wr : World) : Prop := ∃ (t m : Nat) (o : List Int), t ≤ (ysOf wd xs).length ∧ i = .int .i64 (t : Int) ∧ mv = .int .i64 (m : Int) ∧ OwnI B wr ov o ∧ Srv wd (ysOf wd xs) t o m ∧ (∀ b, some b = ov.ownBlock → O b) ∧ Keeps O w3 wr
/-- Behind c columns. -/
def OcR (wd : Nat) (o : List Int) (m s : Nat) (B : Nat) (O : Nat → Prop) (w3 : World) (ov i : Value) (wr : World) : Prop := ∃ (c : Nat) (o' : List Int), c ≤ wd ∧ i = .int .i64 (c : Int) ∧ OwnI B wr ov o' ∧ Plc wd o m s c o' ∧ (∀ b, some b = ov.ownBlock → O b) ∧ Keeps O w3 wr

set_option maxRecDepth 100000 in
set_option maxHeartbeats 8000000 in
theorem orderOf_any (base : Nat) (w : World) (wd : Nat) (rv : Value) (xs : List Int) (hw : wd ≤ 8) (hr : OwnI base w rv xs) (hg : GrowL wd xs) (hn : xs.length ≤ 300) (hbase : base ≤ w.heap.size) :
    Calls Tryz.prog 42 #[.int .i64 (wd : Int), rv] w fun e w' => ∃ r o, e = .returned r ∧ OwnI w.heap.size w' r o ∧ Serves wd xs o ∧ Keeps (fun b => some b = rv.ownBlock) w w' := by
  obtain ⟨i0, hi0, hz0, hz1, hz2⟩ := infoI
  have ht : Tryz.prog.underlying 32 = some (.slice 3) := by kernel_rfl
  obtain ⟨w1, hmk, hown1, hgr1⟩ := run_make_own (P := Tryz.prog) w w.heap.size 32 3 i0 (.int .i64 0) 1 ht hi0 hz0 hz1 .i64 .i64 wd (by rw [hz2]; omega) (by unfold maxLen; omega) (Nat.le_refl _)
  have hK1 : Keeps (fun _ => False) w w1 := ⟨hgr1.os, hgr1.tape, hgr1.output, hgr1.size, fun b o hb _ => (hgr1.block b (lt_heap hb) (fun e => by cases e)).trans hb⟩
  have hr1 : OwnI base w1 rv xs := hr.keeps hK1 (fun _ _ e => e)
  have hs1 := hgr1.size
  obtain ⟨r2, w2, hrun, hown2, hK2, hr2⟩ := app1_run w1 rv xs (((2 ^ wd - 1 : Nat) : Int)) hr1 (by omega) (by omega)
  have hob := hr.block
  have hg1 : w.heap.size < w1.heap.size := by
    rcases hown1.2 with ⟨h', _⟩ | ⟨g, cap, cur, h', _, h3, _⟩
    · simp at h'
    · simp only [Value.slice.injEq, Option.some.injEq, Addr.mk.injEq] at h'
      rw [h'.1.1]
      exact lt_heap h3
  have hown0 : OwnI w.heap.size w2 (.slice (some ⟨w.heap.size, 0, none⟩) 0 wd) [] := OwnI.keeps (l := []) hown1 hK2 (fun b hb e => by
    simp only [Value.ownBlock, Option.some.injEq] at hb
    have := (hob b e).2
    omega)
  have hy : ∀ j, j < (ysOf wd xs).length → ∃ g c, r2 = .slice (some ⟨g, 0, none⟩) (ysOf wd xs).length c ∧ w2.cell? ⟨g, j, none⟩ = some (.int .i64 ((ysOf wd xs).getD j 0)) ∧ some g = r2.ownBlock := fun j hj => by
    obtain ⟨g, c, e, _⟩ := hown2.shape (by simp)
    have := (e ▸ hown2).cell (j := j) hj
    refine ⟨g, c, e, ?_, by rw [e]; rfl⟩
    rw [this.1, List.getD, List.getElem?_eq_getElem hj]
    rfl
  obtain ⟨rg, rc, er2, _, hrg2, _⟩ := hown2.shape (by simp)
  have hrg3 : rg ≠ w.heap.size := fun e => by
    have := hr2 rg (by rw [er2]; rfl)
    rcases this with h | h
    · have := (hob rg h).2; omega
    · omega
  have hlen : (xs ++ [((2 ^ wd - 1 : Nat) : Int)]).length = xs.length + 1 := by simp
  rw [hlen] at er2
  subst er2
  obtain ⟨O, hO⟩ : ∃ O : Nat → Prop, O = fun b => b = w.heap.size ∨ w2.heap.size ≤ b := ⟨_, rfl⟩
  have HY : Hid (∀ j, j < xs.length + 1 → w2.cell? ⟨rg, j, none⟩ = some (.int .i64 ((ysOf wd xs).getD j 0))) := fun j hj => by
    obtain ⟨g, c, e, h1, _⟩ := hy j (by unfold ysOf; rw [hlen]; exact hj)
    simp only [Value.slice.injEq, Option.some.injEq, Addr.mk.injEq] at e
    rw [e.1.1]; exact h1
  have HS : Hid (OoR wd xs w.heap.size O w2 (.slice (some ⟨w.heap.size, 0, none⟩) 0 wd) (.int .i64 0) (.int .i64 0) w2) := ⟨0, 0, [], Nat.zero_le _, rfl, rfl, hown0, Srv.start wd _, fun b hb => by rw [hO]; simp only [Value.ownBlock, Option.some.injEq] at hb; exact .inl hb, Keeps.refl _ _⟩
  have hs2 := hK2.size
  have HK : Hid (Keeps (fun b => some b = rv.ownBlock) w w2) := (hK1.mono (fun _ e => e.elim)).trans hK2 (fun _ _ e => e)
  obtain ⟨va, vn, vc, rfl⟩ : ∃ va vn vc, rv = .slice va vn vc := by
    rcases hr.2 with ⟨e, _⟩ | ⟨g, cap, cur, e, _⟩
    · exact ⟨_, _, _, e⟩
    · exact ⟨_, _, _, e⟩
  have HRUN := hide hrun
  have hfn := full_num wd hw
  have HO := hide hO
  clear hown1 hgr1 hK1 hr hr1 hown2 hK2 hr2 hob hown0 hy hrun hi0 hz0 hz1 hz2 ht hO hlen
  go_enter Tryz.func42, Tryz.ntmps42
  go_wp2_with (at_builtin; refine wpList_append_run _ rfl _ _ 32 rfl _ _ rfl rfl _ _ (unhide HRUN) ?_)
  obtain ⟨D, hD⟩ : ∃ D, D = w.heap.size := ⟨_, rfl⟩
  have HD := hide hD
  rw [← hD] at HS hrg3 hs1 hg1 ⊢
  clear hD
  go_loopw [5, 6, 19] (fun ov mv i wr => OoR wd xs D O w2 ov mv i wr) (fun _ _ i _ => xs.length + 1 - (intOf i).toNat)
  case atStart => exact unhide HS
  case round =>
    rename World => Wo
    obtain ⟨t, m, o, htl, rfl, rfl, hown, hsrv, hOO, hK⟩ := hrel
    have hyl : (ysOf wd xs).length = xs.length + 1 := by simp [ysOf]
    have hos : ∃ va vn vc, u5 = .slice va vn vc := by
      rcases hown.2 with ⟨e, _⟩ | ⟨g, cap, cur, e, _⟩
      · exact ⟨_, _, _, e⟩
      · exact ⟨_, _, _, e⟩
    rw [hyl] at htl
    by_cases htn : t < xs.length + 1
    · obtain ⟨s, es, hs, hgr⟩ := ys_at hg (by rw [hyl]; exact htn)
      have hc0 := hK.cell (unhide HY t htn) (fun e => by rw [unhide HO] at e; simp only at e; have := unhide HD; omega)
      rw [es] at hc0
      have htn3 : (t : Int) < (xs.length : Int) + 1 := by omega
      have h256 : s < 256 := Nat.lt_of_lt_of_le hs (pow_lt wd hw)
      have hm256 : m < 256 := by
        rw [← hsrv.ord.set]
        exact mask_lt o (fun x hx => by have := hsrv.ord.lt x hx; simp [inB]; omega)
      have HS0 : Hid (OcR wd o m s D O w2 u5 (.int .i64 0) Wo) := ⟨0, o, Nat.zero_le _, rfl, hown, Plc.start hsrv.ord, hOO, hK⟩
      have HE := hide (And.intro hsrv (And.intro es (And.intro hs hgr)))
      obtain ⟨va, vn, vc, rfl⟩ := hos
      clear hown hsrv hOO hK es hs hgr hyl
      go_wp2_with fail
      go_loopw [5, 24] (fun ov i wr => OcR wd o m s D O w2 ov i wr) (fun _ i _ => wd - (intOf i).toNat)
      case atStart => exact unhide HS0
      case round =>
        obtain ⟨c, o2, hc, rfl, hown, hpl, hOO, hK⟩ := hrel
        obtain ⟨va, vn, vc, hos⟩ : ∃ va vn vc, u5 = .slice va vn vc := by
          rcases hown.2 with ⟨e, _⟩ | ⟨g, cap, cur, e, _⟩
          · exact ⟨_, _, _, e⟩
          · exact ⟨_, _, _, e⟩
        by_cases hcw : c < wd
        · have hbn := bit_num s m c h256 hm256
          have hpl8 := hpl.len
          have hKs := hK.size
          cases hbit : (s.testBit c && !m.testBit c) with
          | true =>
            rw [hbit] at hbn
            obtain ⟨r7, w7, hrun7, hown7, hK7, hr7⟩ := app1_run wr _ _ (c : Int) hown (by have := unhide HD; omega) (by omega)
            simp only [Bool.and_eq_true, Bool.not_eq_true'] at hbit
            have HN : Hid (OcR wd o m s D O w2 r7 (.int .i64 ((c + 1 : Nat) : Int)) w7) := ⟨c + 1, _, by omega, rfl, hown7, hpl.yes hcw hbit.1 hbit.2, fun b hb => (hr7 b hb).elim (hOO b) (fun h => by rw [unhide HO]; exact .inr (by omega)), hK.trans hK7 (fun b _ e => hOO b e)⟩
            have HRUN7 := hide hrun7
            subst hos
            clear hown hpl hOO hK hrun7 hown7 hK7 hr7 hbit
            go_wp2_with (at_builtin; refine wpList_append_run _ rfl _ _ 32 rfl _ _ rfl rfl _ _ (unhide HRUN7) ?_)
            go_roundw
            case rel =>
              have := unhide HN
              rw [Int.natCast_add] at this
              exact this
            case measure => simp [intOf]; omega
          | false =>
            rw [hbit] at hbn
            have HN : Hid (OcR wd o m s D O w2 u5 (.int .i64 ((c + 1 : Nat) : Int)) wr) := ⟨c + 1, _, by omega, rfl, hown, hpl.no hbit, hOO, hK⟩
            clear hown hpl hOO hK hbit hos
            go_wp2_with fail
            go_roundw
            case rel =>
              have := unhide HN
              rw [Int.natCast_add] at this
              exact this
            case measure => simp [intOf]; omega
        · have hcw2 : c = wd := by omega
          rw [hcw2] at hpl
          have hor := or_nat m s (by omega) (by omega)
          obtain ⟨hsrv, es, hs, hgr⟩ := unhide HE
          have hsv := hsrv.step hpl hs (by rw [es]; simp) hgr
          have HN : Hid (OoR wd xs D O w2 u5 (.int .i64 ((m ||| s : Nat) : Int)) (.int .i64 ((t + 1 : Nat) : Int)) wr) := ⟨t + 1, m ||| s, o2, by simp [ysOf]; omega, rfl, rfl, hown, hsv, hOO, hK⟩
          subst hos
          clear hown hpl hOO hK hsrv es hs hgr hsv hcw2
          go_wp2_with fail
          refine ⟨?_, ?_⟩
          · have := unhide HN
            rw [Int.natCast_add] at this
            exact this
          · simp [intOf]; omega
    · have htn2 : t = xs.length + 1 := by omega
      rw [htn2] at hsrv
      have HE := hide (And.intro hown (And.intro (hsrv.serves hw hg) hK))
      obtain ⟨va, vn, vc, rfl⟩ := hos
      clear hown hsrv hOO hK htn2 hyl
      go_wp2_with fail
      go_ret
      obtain ⟨hown, hserv, hK⟩ := unhide HE
      refine ⟨_, o, rfl, by rw [← unhide HD]; exact hown, hserv, (unhide HK).trans hK (fun b hb e => ?_)⟩
      rw [unhide HO] at e
      have := (unhide HK).size
      omega
end Go.Proofs.YthcljhfankooaabGreat.C

namespace Go.Proofs.YthcljhfankooaabGreat.C
open Go.RowKit Go.Shelf Go.Maps

/-- How few orders are enough. -/
def IsLeast (l : List Int) (n : Nat) : Prop := ∃ W, (∀ x, x ∈ W ↔ x = 0 ∨ x ∈ l) ∧ (∀ x ∈ W, 0 ≤ x) ∧ Rows_ W n
theorem IsLeast.same {l m : List Int} {n k : Nat} (h : IsLeast l n) (g : IsLeast m k) (e : ∀ x, x ∈ l ↔ x ∈ m) : n = k := by
  obtain ⟨W, h1, _, h2⟩ := h
  obtain ⟨V, g1, _, g2⟩ := g
  exact h2.same g2 fun x => by rw [h1, g1, e]
theorem Prs.rows {w : World} {pv : Value} {l : List Int} {N : Nat} {f ab be : Nat → Int} (h : Prs w pv l N f ab be) : IsLeast l (firstsL N be).length := by
  obtain ⟨hp, ⟨A, B, hD, hA⟩, _⟩ := h.done
  obtain ⟨ps, h1, h2⟩ := hp.pb.top h.up.inj hD (fun i hi => by
    rcases hp.up i hi with e | ⟨k, hk, e1, e2, _⟩
    · exact .inl (hA i hi e)
    · exact .inr ⟨k, hk, e2⟩)
  refine ⟨vals N f, h.all, fun x hx => ?_, vals_nodup h.up.inj, ps, h1, ?_⟩
  · obtain ⟨j, hj, rfl⟩ := mem_vals.1 hx
    exact (h.small j hj).1
  · rw [h2, vals_length]
    exact firstsL_len N be
theorem Prs.keeps {O : Nat → Prop} {w w' : World} {pv : Value} {l : List Int} {N : Nat} {f ab be : Nat → Int} (h : Prs w pv l N f ab be) (hk : Keeps O w w') (hO : ∀ b, b < w.heap.size → ¬ O b) : Prs w' pv l N f ab be := by
  obtain ⟨sb, sc, a, ac, b, bc, e, h1, h2, h3⟩ := h.mem
  exact ⟨⟨sb, sc, a, ac, b, bc, e, h1.keeps hk (hO _ h1.lt), h2.keeps hk (hO _ h2.lt), h3.keeps hk (hO _ h3.lt)⟩, h.n1, h.n2, h.up, h.small, h.all, h.done⟩
theorem Prs.later {w w' : World} {pv : Value} {l : List Int} {N : Nat} {f ab be : Nat → Int} (h : Prs w pv l N f ab be) (hb : Below w.heap.size w w') : Prs w' pv l N f ab be := h.keeps (O := fun _ => False) (Keeps.of_below hb) (fun _ _ e => e)

/-- A row of rows of numbers, all of one's own. -/
def OL (base : Nat) (w : World) (v : Value) (os : List (List Int)) : Prop := ∃ vs, w.ownsRow base 32 1 v os.length vs ∧ ∀ j, j < os.length → ∃ u, vs[j]? = some u ∧ OwnI base w u (os.getD j []) ∧ ∀ b, some b = u.ownBlock → some b ≠ v.ownBlock
theorem OL.nil (base : Nat) (w : World) : OL base w (.slice none 0 0) [] := ⟨[], World.ownsRow_nil _ _ _ _, fun j hj => by simp at hj⟩
theorem ownsRow_keeps {base : Nat} {O : Nat → Prop} {A B : World} {e : TypeId} {v : Value} {n : Nat} {vs : List Value} (h : A.ownsRow base e 1 v n vs) (hk : Keeps O A B) (hn : ∀ b, some b = v.ownBlock → ¬ O b) : B.ownsRow base e 1 v n vs := by
  refine ⟨h.1, ?_⟩
  rcases h.2 with h | ⟨g, cap, cur, h1, h2, h3, h4⟩
  · exact .inl h
  · exact .inr ⟨g, cap, cur, h1, h2, hk.same _ _ h3 (hn g (by rw [h1]; rfl)), h4⟩
theorem OL.keeps {base : Nat} {O : Nat → Prop} {A B : World} {v : Value} {os : List (List Int)} (h : OL base A v os) (hk : Keeps O A B) (hn : ∀ b, b < A.heap.size → ¬ O b) : OL base B v os := by
  obtain ⟨vs, h1, h2⟩ := h
  refine ⟨vs, ownsRow_keeps h1 hk (fun b hb => hn b (h1.lt b hb.symm).2), fun j hj => ?_⟩
  obtain ⟨u, u1, u2, u3⟩ := h2 j hj
  exact ⟨u, u1, u2.keeps hk (fun b hb => hn b (u2.block b hb).2), u3⟩
theorem appT1_run {base : Nat} (w : World) (v u : Value) (n : Nat) (vs : List Value) (h : w.ownsRow base 32 1 v n vs) (hu : u.oneCell' = true) (hb : base ≤ w.heap.size) (hn : n ≤ 2000) :
    ∃ r w', (Builtin.append_ #[22, 22] 22 #[v, .slice (some ⟨w.heap.size, 0, none⟩) 1 1]).run Tryz.prog (w.alloc (.cells #[u] 32)) = .ok r w' ∧ w'.ownsRow base 32 1 r (n + 1) (vs ++ [u]) ∧ Keeps (fun b => some b = v.ownBlock) w w' ∧ ∀ b, some b = r.ownBlock → some b = v.ownBlock ∨ w.heap.size ≤ b := by
  obtain ⟨i, h1, h2, h3, h4⟩ := infoT
  have ht : Tryz.prog.underlying 22 = some (.slice 32) := by kernel_rfl
  obtain ⟨r, w', hr, ho, hg, _, hat⟩ := run_append_own_at (P := Tryz.prog) (w.alloc (.cells #[u] 32)) base 22 22 32 i (.slice none 0 0) 1 24 ht h1 h2 h3 h4 rfl (by decide) v n vs (World.ownsRow.alloc h _) ⟨w.heap.size, 0, none⟩ 1 1 [u] rfl (fun j x hj => by
    cases j with
    | zero =>
      simp only [List.getElem?_cons_zero, Option.some.injEq] at hj
      subst hj
      rw [Addr.add_lit]
      exact (cell_at (World.alloc_heap_new _ _) _).trans rfl
    | succ j => simp at hj) (fun x hx => by simp at hx; subst hx; exact hu) (by unfold maxLen; omega) (by omega) (by simp; omega)
  refine ⟨r, w', hr, ho, ((Keeps.refl _ w).alloc _).trans (keeps_grown (O := fun b => some b = v.ownBlock) hg (fun b hb => hb)) (fun _ _ e => e), fun b hb2 => ?_⟩
  rcases hat with e | e
  · exact .inl (hb2.trans e)
  · rw [e] at hb2
    simp only [Option.some.injEq, World.size_alloc] at hb2
    exact .inr (by omega)
/-- One more. -/
theorem OL.snoc {base : Nat} {w w' : World} {v u r : Value} {os : List (List Int)} {o : List Int} (h : OL base w v os) (hu : OwnI base w u o) (hne : ∀ b, some b = u.ownBlock → some b ≠ v.ownBlock)
    (hrow : ∀ vs, w.ownsRow base 32 1 v os.length vs → w'.ownsRow base 32 1 r (os.length + 1) (vs ++ [u])) (hK : Keeps (fun b => some b = v.ownBlock) w w') (hr : ∀ b, some b = r.ownBlock → some b = v.ownBlock ∨ w.heap.size ≤ b) : OL base w' r (os ++ [o]) := by
  obtain ⟨vs, h1, h2⟩ := h
  have hl : vs.length = os.length := by have := h1.1; omega
  refine ⟨vs ++ [u], by rw [List.length_append]; exact hrow vs h1, fun j hj => ?_⟩
  rw [List.length_append] at hj
  simp only [List.length_cons, List.length_nil] at hj
  by_cases e : j < os.length
  · obtain ⟨x, x1, x2, x3⟩ := h2 j e
    refine ⟨x, by rw [List.getElem?_append_left (by omega)]; exact x1, ?_, fun b hb g => ?_⟩
    · have e2 : (os ++ [o]).getD j [] = os.getD j [] := by rw [List.getD, List.getD, List.getElem?_append_left e]
      rw [e2]
      exact x2.keeps hK (fun b hb => x3 b hb)
    · rcases hr b g with k | k
      · exact x3 b hb k
      · have := (x2.block b hb).2; omega
  · have e3 : j = os.length := by omega
    subst e3
    refine ⟨u, by rw [List.getElem?_append_right (by omega), hl, Nat.sub_self]; rfl, ?_, fun b hb g => ?_⟩
    · have e2 : (os ++ [o]).getD os.length [] = o := by rw [List.getD, List.getElem?_append_right (Nat.le_refl _), Nat.sub_self]; rfl
      rw [e2]
      exact hu.keeps hK (fun b hb => hne b hb)
    · rcases hr b g with k | k
      · exact hne b hb k
      · have := (hu.block b hb).2; omega
/-- .. read. -/
theorem OL.list {base : Nat} {w : World} {v : Value} {os : List (List Int)} (h : OL base w v os) : ListAt (fun b => base ≤ b) w v os := by
  obtain ⟨vs, h1, h2⟩ := h
  have hl : vs.length = os.length := by have := h1.1; omega
  refine ⟨fun j => vs.getD j undef, ?_, fun j hj => ?_⟩
  · refine Row.of_own (e := 32) ?_
    have e : (List.range os.length).map (fun j => vs.getD j undef) = vs := by
      rw [← hl]
      apply List.ext_getElem
      · simp
      · intro i h1 h2
        simp [List.getD, List.getElem?_eq_getElem h2]
    rw [e]
    exact h1
  · obtain ⟨u, u1, u2, _⟩ := h2 j hj
    have e : vs.getD j undef = u := by simp [List.getD, u1]
    show IntsS _ w (vs.getD j undef) _
    rw [e]
    exact u2.intsS

def OrR (wd N : Nat) (f ab be : Nat → Int) (B : Nat) (w3 : World) (ov i : Value) (wr : World) : Prop := ∃ (k : Nat) (os : List (List Int)), k ≤ (firstsL N be).length ∧ i = .int .i64 (k : Int) ∧ os.length = k ∧ OL B wr ov os ∧ (∀ j, j < k → ∃ rl, RowTo N f ab ((firstsL N be).getD j 0) rl (-1) ∧ Serves wd (rl.map f) (os.getD j [])) ∧ Below B w3 wr
/-- All searches are served. -/
theorem orders_serve {wd N : Nat} {w : World} {pv : Value} {f ab be : Nat → Int} {l : List Int} {os : List (List Int)} (h : Prs w pv l N f ab be) (hl : os.length = (firstsL N be).length) (hs : ∀ j, j < os.length → ∃ rl, RowTo N f ab ((firstsL N be).getD j 0) rl (-1) ∧ Serves wd (rl.map f) (os.getD j [])) :
    (∀ o ∈ os, right o = true ∧ o.length = wd) ∧ ∀ x ∈ l, ∃ o ∈ os, coverB o x = true := by
  refine ⟨fun o ho => ?_, fun x hx => ?_⟩
  · obtain ⟨j, hj, rfl⟩ := List.getElem_of_mem ho
    obtain ⟨rl, _, h1, h2, _⟩ := hs j hj
    rw [List.getD, List.getElem?_eq_getElem hj] at h1 h2
    exact ⟨h1, h2⟩
  · have hP : ∀ s, s < N → be s = -1 → ∃ rl, RowTo N f ab s rl (-1) ∧ ∃ o ∈ os, Serves wd (rl.map f) o := fun s hs1 hs2 => by
      obtain ⟨j, hj, e⟩ := List.getElem_of_mem (mem_firstsL.2 ⟨hs1, hs2⟩)
      obtain ⟨rl, r1, r2⟩ := hs j (by omega)
      rw [List.getD, List.getElem?_eq_getElem hj] at r1
      refine ⟨rl, e ▸ r1, os.getD j [], ?_, r2⟩
      rw [List.getD, List.getElem?_eq_getElem (show j < os.length by omega)]
      exact List.getElem_mem _
    obtain ⟨j, hj, e⟩ := mem_vals.1 ((h.all x).2 (.inr hx))
    obtain ⟨R, hR⟩ : ∃ R : Nat → List Nat, ∀ s, s < N → be s = -1 → RowTo N f ab s (R s) (-1) ∧ ∃ o ∈ os, Serves wd ((R s).map f) o := by
      have : ∀ s, ∃ rl, s < N → be s = -1 → RowTo N f ab s rl (-1) ∧ ∃ o ∈ os, Serves wd (rl.map f) o := fun s => by
        by_cases g : s < N ∧ be s = -1
        · obtain ⟨rl, h⟩ := hP s g.1 g.2
          exact ⟨rl, fun _ _ => h⟩
        · exact ⟨[], fun a b => absurd ⟨a, b⟩ g⟩
      exact Classical.axiomOfChoice this
    obtain ⟨s, s1, s2, s3⟩ := rows_all h.done.1 h.up (fun j hj => (h.small j hj).1) R (fun s a b => (hR s a b).1) j hj
    obtain ⟨o, o1, o2⟩ := (hR s s1 s2).2
    exact ⟨o, o1, by rw [← e]; exact o2.2.2 _ (List.mem_map_of_mem s3)⟩
theorem look_zero {wd : Nat} {l : List Int} (h : lookE wd l = 0) (hw : wd ≤ 8) : l.length ≤ 256 ∧ (∀ x ∈ l, 0 ≤ x ∧ x < ((2 ^ wd : Nat) : Int)) ∧ ∀ x ∈ l, 0 ≤ x ∧ x < 256 := by
  unfold lookE at h
  split at h
  · rename_i h1
    split at h
    · rename_i h2
      have h3 : ∀ x ∈ l, 0 ≤ x ∧ x < ((2 ^ wd : Nat) : Int) := fun x hx => okB_iff.1 (List.all_eq_true.1 h2 x hx)
      have := pow_lt wd hw
      exact ⟨h1, h3, fun x hx => by have := h3 x hx; omega⟩
    · simp at h
  · simp at h



end Go.Proofs.YthcljhfankooaabGreat.C

namespace Go.Proofs.YthcljhfankooaabGreat.C
open Go.RowKit Go.Shelf Go.Maps

theorem RowTo.growL {wd N : Nat} {w : World} {pv : Value} {l : List Int} {f ab be : Nat → Int} {s : Nat} {rl : List Nat} {p : Int} (h : RowTo N f ab s rl p) (hp : Prs w pv l N f ab be) (hl : ∀ x ∈ l, 0 ≤ x ∧ x < ((2 ^ wd : Nat) : Int)) : GrowL wd (rl.map f) := by
  refine ⟨fun x hx => ?_, ?_⟩
  · obtain ⟨i, hi, rfl⟩ := List.mem_map.1 hx
    rcases (hp.all (f i)).1 (mem_vals.2 ⟨i, h.mem i hi, rfl⟩) with e | e
    · have : 1 ≤ 2 ^ wd := Nat.one_le_two_pow
      omega
    · exact hl _ e
  · rw [List.pairwise_map]
    exact h.grow
set_option maxRecDepth 100000 in
set_option maxHeartbeats 8000000 in
theorem orders_ok (w : World) (wd : Nat) (v : Value) (l : List Int) (h : Ints w.heap.size w v l) (hw : wd ≤ 8) (hl : lookE wd l = 0) :
    Calls Tryz.prog 21 #[.int .i64 (wd : Int), v] w fun e w' => ∃ r os, e = .returned (.tuple #[r, .int .i64 0]) ∧ OL w.heap.size w' r os ∧ IsLeast l os.length ∧ (∀ o ∈ os, right o = true ∧ o.length = wd) ∧ (∀ x ∈ l, ∃ o ∈ os, coverB o x = true) ∧ Below w.heap.size w w' := by
  have hlk := look_any w.heap.size w v l h wd hw
  rw [hl] at hlk
  obtain ⟨z1, z2, z3⟩ := look_zero hl hw
  have hpa := paired_any w v l h z1 z3
  obtain ⟨va, vc, rfl, _⟩ := id h
  have hw0 : ¬ ((wd : Int) < 0) := by omega
  have hw8 : ¬ ((8 : Int) < (wd : Int)) := by omega
  have HL := hide z2
  clear h hl z3 z2
  go_enter Tryz.func21, Tryz.ntmps21
  go_wp2_with fail
  refine hlk.mono ?_
  clear hlk
  rintro e w' ⟨rfl, hw'⟩
  subst hw'
  go_wp2_with fail
  refine hpa.mono ?_
  clear hpa
  rintro e w1 ⟨pv, N, f, ab, be, rfl, hp, b1⟩
  have HP := hide (And.intro hp b1)
  obtain ⟨sb, sc, a, ac, b, bc, rfl, _⟩ := hp.mem
  have hs1 := b1.size
  obtain ⟨b2, hnw, hs2⟩ := box3 w1 (.slice (some ⟨sb, 0, none⟩) N sc) (.slice (some ⟨a, 0, none⟩) N ac) (.slice (some ⟨b, 0, none⟩) N bc) 94
  obtain ⟨w2, hw2⟩ : ∃ w2, w2 = w1.alloc (.cells #[.slice (some ⟨sb, 0, none⟩) N sc, .slice (some ⟨a, 0, none⟩) N ac, .slice (some ⟨b, 0, none⟩) N bc] 94) := ⟨_, rfl⟩
  rw [← hw2] at b2 hnw hs2
  have hp2 := hp.later b2
  have hfs := firsts_any w2 _ l N f ab be hp2
  obtain ⟨c0, c1, c2, _⟩ := three_cells hnw
  have HP2 := hide (And.intro hp2 b2)
  clear hp b1 hp2 b2
  go_wp2_with fail
  rw [← hw2]
  clear hw2
  go_wp2_with fail
  refine hfs.mono ?_
  clear hfs
  rintro e w3 ⟨r, rfl, hown, b3⟩
  have hs3 := b3.size
  have hlen := hown.lenOf
  rw [toI_len] at hlen
  have hob := hown.block
  obtain ⟨ra, rn, rc, er⟩ : ∃ ra rn rc, r = .slice ra rn rc := by
    rcases hown.2 with ⟨e, _⟩ | ⟨g, cap, cur, e, _⟩
    · exact ⟨_, _, _, e⟩
    · exact ⟨_, _, _, e⟩
  have hnw3 := (b3.block _ (by omega)).trans hnw
  have HS : Hid (OrR wd N f ab be w3.heap.size w3 (.slice none 0 0) (.int .i64 0) w3) := ⟨0, [], Nat.zero_le _, rfl, rfl, OL.nil _ _, fun j hj => by omega, Below.refl _ _⟩
  have HE := hide (And.intro hown (And.intro hnw3 (And.intro ((unhide HP2).1.later b3) (((unhide HP).2.trans ((unhide HP2).2.mono hs1)).trans (b3.mono (by omega))))))
  subst er
  have hrn : rn = (firstsL N be).length := hlen
  have hfl := firstsL_le N be
  have hN2 := (unhide HP).1.n2
  obtain ⟨F, hF⟩ : ∃ F, F = (firstsL N be).length := ⟨_, rfl⟩
  rw [← hF] at hrn hfl
  subst hrn
  have HF := hide hF
  clear hown b3 hnw hlen hob hnw3 c0 c1 c2 hF
  go_wp2_with fail
  obtain ⟨P1, hP1⟩ : ∃ P1, P1 = w1.heap.size := ⟨_, rfl⟩
  have HP1 := hide hP1
  rw [← hP1] at HE hs1 hs2 ⊢
  clear hP1
  go_loopw [8, 28] (fun ov i wr => OrR wd N f ab be w3.heap.size w3 ov i wr) (fun _ i _ => rn - (intOf i).toNat)
  case atStart => exact unhide HS
  case round =>
    obtain ⟨k, os, hk, rfl, hol, hOL, hsv, hbl⟩ := hrel
    obtain ⟨hown, hnw3, hp3, b03⟩ := unhide HE
    rw [← unhide HF] at hk
    obtain ⟨oa, on, oc, eo⟩ : ∃ oa on oc, u8 = .slice oa on oc := by
      obtain ⟨vs, h1, _⟩ := hOL
      rcases h1.2 with ⟨e, _⟩ | ⟨g, cap, cur, e, _⟩
      · exact ⟨_, _, _, e⟩
      · exact ⟨_, _, _, e⟩
    by_cases hkN : k < rn
    · have hkF : k < (firstsL N be).length := by have := unhide HF; omega
      obtain ⟨g, hra⟩ : ∃ g, ra = some ⟨g, 0, none⟩ := by
        obtain ⟨g, gc, eg, _⟩ := hown.shape (fun e => by have := congrArg List.length e; rw [toI_len] at this; simp at this; rw [this] at hkF; simp at hkF)
        simp only [Value.slice.injEq] at eg
        exact ⟨g, eg.1⟩
      subst hra
      have hcell := (hown.keeps (O := fun _ => False) (Keeps.of_below hbl) (fun _ _ e => e)).cell (j := k) (by rw [toI_len]; exact hkF)
      obtain ⟨s, hs⟩ : ∃ s, s = (firstsL N be)[k] := ⟨_, rfl⟩
      have e1 : (toI (firstsL N be))[k]'(by rw [toI_len]; exact hkF) = (s : Int) := by rw [hs]; simp [toI]
      rw [e1] at hcell
      have hmem := mem_firstsL.1 (hs ▸ List.getElem_mem hkF : s ∈ firstsL N be)
      obtain ⟨x0, _⟩ := hcell
      obtain ⟨c0, c1, c2, _⟩ := three_cells ((hbl.block _ (by omega)).trans hnw3)
      have hfr := from_any wr _ l N f ab be (hp3.later hbl) s hmem.1
      have HI := hide (And.intro hol (And.intro hOL (And.intro hsv (And.intro hbl (And.intro hs e1)))))
      have hws := hbl.size
      subst eo
      clear hol hOL hsv hbl hown hnw3 hp3 b03 hs e1 hmem
      go_wp2_with fail
      refine hfr.mono ?_
      clear hfr
      rintro e w5 ⟨rv, rl, rfl, hown5, hrow5, hln5, b5⟩
      have hs5 := b5.size
      have hp := (unhide HP).1
      have hoo := orderOf_any wr.heap.size w5 wd rv (rl.map f) hw hown5 (hrow5.growL hp (unhide HL)) (by rw [List.length_map]; omega) hs5
      have hob5 := hown5.block
      have HI5 := hide (And.intro hrow5 (And.intro b5 hob5))
      obtain ⟨ra5, rn5, rc5, er5⟩ : ∃ ra rn rc, rv = .slice ra rn rc := by
        rcases hown5.2 with ⟨e, _⟩ | ⟨g, cap, cur, e, _⟩
        · exact ⟨_, _, _, e⟩
        · exact ⟨_, _, _, e⟩
      subst er5
      clear hown5 hrow5 b5 hp hob5
      go_wp2_with fail
      refine hoo.mono ?_
      clear hoo
      rintro e w6 ⟨ru, o, rfl, hown6, hserv, hK6⟩
      obtain ⟨hrow5, b5, hob5⟩ := unhide HI5
      obtain ⟨hol, hOL, hsv, hbl, hs, e1⟩ := unhide HI
      have b6 : Below wr.heap.size wr w6 := b5.trans (hK6.below hs5 (fun b e => (hob5 b e).1))
      have hs6 := b6.size
      have hOL6 := hOL.keeps (O := fun _ => False) (Keeps.of_below b6) (fun _ _ e => e)
      have hown6' : OwnI w3.heap.size w6 ru o := hown6.base (by omega)
      have hru : ru.oneCell' = true := by
        rcases hown6.2 with ⟨e, _⟩ | ⟨g, cap, cur, e, _⟩
        · rw [e]; rfl
        · rw [e]; rfl
      have hobu := hown6.block
      have hlt : ∀ b, some b = (Value.slice oa on oc).ownBlock → b < wr.heap.size := fun b hb => by
        obtain ⟨vs, h1, _⟩ := hOL
        exact (h1.lt b hb.symm).2
      obtain ⟨vs, hvs, hel⟩ := id hOL6
      obtain ⟨r7, w7, hrun7, hrow7, hK7, hr7⟩ := appT1_run w6 _ ru os.length vs hvs hru (by omega) (by omega)
      have hOL7 : OL w3.heap.size w7 r7 (os ++ [o]) := hOL6.snoc hown6' (fun b hb e => by have := (hobu b hb).1; have := hlt b e; omega) (fun vs' h' => by
        obtain ⟨r8, w8, hrun8, hrow8, _, _⟩ := appT1_run w6 _ ru os.length vs' h' hru (by omega) (by omega)
        rw [hrun7] at hrun8
        cases hrun8
        exact hrow8) hK7 hr7
      have b7 : Below w3.heap.size w3 w7 := (hbl.trans (b6.mono hws)).trans (hK7.below (by omega) (fun b e => (hvs.lt b e.symm).1))
      have HN : Hid (OrR wd N f ab be w3.heap.size w3 r7 (.int .i64 ((k + 1 : Nat) : Int)) w7) := by
        refine ⟨k + 1, os ++ [o], by have := unhide HF; omega, rfl, by simp [hol], hOL7, fun j hj => ?_, b7⟩
        by_cases e : j < k
        · obtain ⟨rl', r1, r2⟩ := hsv j e
          refine ⟨rl', r1, ?_⟩
          rw [List.getD, List.getElem?_append_left (by omega)]
          exact r2
        · have ej : j = k := by omega
          subst ej
          refine ⟨rl, ?_, ?_⟩
          · have : (firstsL N be).getD j 0 = s := by rw [hs, List.getD, List.getElem?_eq_getElem hkF]; rfl
            rw [this]; exact hrow5
          · rw [List.getD, List.getElem?_append_right (by omega), hol, Nat.sub_self]
            exact hserv
      have HRUN7 := hide hrun7
      obtain ⟨ra6, rn6, rc6, er6⟩ : ∃ ra rn rc, ru = .slice ra rn rc := by
        rcases hown6.2 with ⟨e, _⟩ | ⟨g, cap, cur, e, _⟩
        · exact ⟨_, _, _, e⟩
        · exact ⟨_, _, _, e⟩
      subst er6
      clear hown6 hserv hK6 hrow5 b5 hob5 hol hOL hsv hbl hs e1 b6 hOL6 hown6' hru hobu hlt hvs hel hrun7 hrow7 hK7 hr7 hOL7 b7
      go_wp2_with (at_builtin; refine wpList_append_run _ rfl _ _ 22 rfl _ _ rfl rfl _ _ (unhide HRUN7) ?_)
      go_roundw
      case rel =>
        have := unhide HN
        rw [Int.natCast_add] at this
        exact this
      case measure => simp [intOf]; omega
    · have hkN2 : k = rn := by omega
      have HI := hide (And.intro hol (And.intro hOL (And.intro hsv (And.intro hbl hkN2))))
      subst eo
      clear hol hOL hsv hbl hown hnw3 hp3 b03 hkN2
      go_wp2_with fail
      go_ret2
      obtain ⟨hol, hOL, hsv, hbl, hkN2⟩ := unhide HI
      obtain ⟨_, _, hp3, b03⟩ := unhide HE
      have hF := unhide HF
      obtain ⟨s1, s2⟩ := orders_serve (os := os) hp3 (by omega) (fun j hj => hsv j (by omega))
      have hb0 := b03.size
      refine ⟨_, os, rfl, ?_, ?_, s1, s2, b03.trans (hbl.mono hb0)⟩
      · obtain ⟨vs, h1, h2⟩ := hOL
        refine ⟨vs, ⟨h1.1, ?_⟩, fun j hj => ?_⟩
        · rcases h1.2 with h | ⟨g, cap, cur, q1, q2, q3⟩
          · exact .inl h
          · exact .inr ⟨g, cap, cur, q1, by omega, q3⟩
        · obtain ⟨u, u1, u2, u3⟩ := h2 j hj
          exact ⟨u, u1, u2.base hb0, u3⟩
      · rw [hol, hkN2, hF]
        exact hp3.rows
end Go.Proofs.YthcljhfankooaabGreat.C

namespace Go.Proofs.YthcljhfankooaabGreat.C
open Go.RowKit Go.Shelf Go.Maps

/-- What Orders tells. -/
def ordE (width : Int) (l : List Int) : Int := if width < 0 ∨ 8 < width then 1 else lookE width.toNat l
theorem ordE_nat {wd : Nat} (h : wd ≤ 8) (l : List Int) : ordE (wd : Int) l = lookE wd l := by
  unfold ordE
  rw [if_neg (by omega), Int.toNat_natCast]

set_option maxRecDepth 100000 in
set_option maxHeartbeats 4000000 in
theorem orders_no (w : World) (width : Int) (v : Value) (l : List Int) (h : Ints w.heap.size w v l) (hl : ordE width l ≠ 0) :
    Calls Tryz.prog 21 #[.int .i64 width, v] w fun e w' => e = .returned (.tuple #[.slice none 0 0, .int .i64 (ordE width l)]) ∧ w' = w := by
  by_cases hb : width < 0 ∨ 8 < width
  · have HE : Hid (ordE width l = 1) := if_pos hb
    obtain ⟨va, vc, rfl, _⟩ := id h
    clear h hl
    by_cases h0 : width < 0
    · go_enter Tryz.func21, Tryz.ntmps21
      go_wp2_with fail
      go_ret2
      exact ⟨by rw [unhide HE]; rfl, rfl⟩
    · have h8 : 8 < width := by omega
      go_enter Tryz.func21, Tryz.ntmps21
      go_wp2_with fail
      go_ret2
      exact ⟨by rw [unhide HE]; rfl, rfl⟩
  · obtain ⟨wd, rfl⟩ : ∃ wd : Nat, width = (wd : Int) := ⟨width.toNat, by omega⟩
    have hw : wd ≤ 8 := by omega
    rw [ordE_nat hw] at hl ⊢
    have hlk := look_any w.heap.size w v l h wd hw
    obtain ⟨va, vc, rfl, _⟩ := id h
    have hz : (lookE wd l != 0) = true := by simpa using hl
    generalize lookE wd l = e8 at hlk hz
    have hw0 : ¬ ((wd : Int) < 0) := by omega
    have hw8 : ¬ ((8 : Int) < (wd : Int)) := by omega
    clear h hl hb
    go_enter Tryz.func21, Tryz.ntmps21
    go_wp2_with fail
    refine hlk.mono ?_
    clear hlk
    rintro e w' ⟨rfl, rfl⟩
    go_wp2_with fail
    go_ret2
    exact ⟨rfl, rfl⟩

end Go.Proofs.YthcljhfankooaabGreat.C
