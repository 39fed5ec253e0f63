/- The walk of pair. -/
import Derived.Test.YtclialdbaclpoaaWays
import Derived.WalkMore
namespace Go.Proofs.Ytclialdbaclpoaa
open Go.RowKit Go.Shelf Go.Maps

/-- What nones gives. -/
def NonesC : Prop := ∀ (w : World) (n : Nat), 1 ≤ n → n ≤ 1000 → Calls Try.prog 30 #[.int .i64 (n : Int)] w fun e w' => ∃ b c, e = .returned (.slice (some ⟨b, 0, none⟩) n c) ∧ w.heap.size ≤ b ∧ Arr w' b n (fun _ => -1) ∧ Below w.heap.size w w'

def toI (l : List Nat) : List Int := l.map Int.ofNat
theorem toI_snoc (l : List Nat) (x : Nat) : toI (l ++ [x]) = toI l ++ [(x : Int)] := by simp [toI]
theorem toI_len (l : List Nat) : (toI l).length = l.length := by simp [toI]
/-- What was asked, as it lies. -/
def asOf (wr : World) (kb : Nat) : Nat → Int := fun j => intOf ((wr.cell? ⟨kb, j, none⟩).getD undef)
theorem free_asOf {wr : World} {kb N : Nat} {f : Nat → Int} (h : Arr wr kb N f) : free N (asOf wr kb) = free N f := by
  unfold free
  congr 1
  refine List.filter_congr fun j hj => ?_
  have := (h.cell (List.mem_range.1 hj)).1
  simp [asOf, this, intOf]
def lenOf : Value → Nat
  | .slice _ n _ => n
  | _ => 0
theorem OwnI.shape {base : Nat} {w : World} {v : Value} {l : List Int} (h : OwnI base w v l) (hl : l ≠ []) : ∃ g c, v = .slice (some ⟨g, 0, none⟩) l.length c ∧ base ≤ g ∧ g < w.heap.size ∧ l.length ≤ c ∧ c ≤ 9223372036854775807 := by
  rcases h.2 with ⟨_, h0⟩ | ⟨g, cap, cur, h1, h2, h3, h4, h5, _⟩
  · exact absurd (List.eq_nil_of_length_eq_zero h0) hl
  · exact ⟨g, cap, h1, h2, lt_heap h3, h4, by unfold maxLen at h5; omega⟩
theorem OwnI.lenOf {base : Nat} {w : World} {v : Value} {l : List Int} (h : OwnI base w v l) : lenOf v = l.length := by
  rcases h.2 with ⟨h1, h0⟩ | ⟨g, cap, cur, h1, _⟩
  · rw [h1, h0]; rfl
  · rw [h1]; rfl
/-- The last one is left out. -/
theorem OwnI.cut {base : Nat} {w : World} {g n c : Nat} {l : List Int} {x : Int} (h : OwnI base w (.slice (some ⟨g, 0, none⟩) n c) (l ++ [x])) : OwnI base w (.slice (some ⟨g, 0, none⟩) l.length c) l := by
  refine ⟨by simp, .inr ?_⟩
  rcases h.2 with ⟨h', _⟩ | ⟨g', cap, cur, h1, h2, h3, h4, h5, h6, h7⟩
  · simp at h'
  · simp only [Value.slice.injEq, Option.some.injEq, Addr.mk.injEq] at h1
    obtain ⟨⟨rfl, _⟩, rfl, rfl⟩ := h1
    simp only [List.length_append, List.length_cons, List.length_nil] at h4 h7
    refine ⟨g, c, cur, rfl, h2, h3, by omega, h5, h6, ?_⟩
    have : cur.toList.take (l.length * 1) = (cur.toList.take ((l.length + (0 + 1)) * 1)).take l.length := by rw [List.take_take]; congr 1; omega
    rw [this, h7]
    simp

/-- While one is sought. -/
def PRel (N : Nat) (f ab be : Nat → Int) (low pb kb : Nat) (w3 : World) (v : Value) (wr : World) : Prop :=
  ∃ (path : List Nat) (asd : Nat → Int) (rk : Nat → Nat) (t : Nat), OwnI pb wr v (toI path) ∧ Arr wr kb N asd ∧ Seek N (In f) ab be asd low rk t path ∧ path.length + free N asd ≤ N + 1 ∧ Keeps (fun x => x = kb ∨ pb ≤ x) w3 wr
/-- While one asks. -/
def ARel (N : Nat) (f asd : Nat → Int) (last : Nat) (wr : World) (i : Value) (wr2 : World) : Prop :=
  ∃ k : Nat, k ≤ N ∧ i = .int .i64 (k : Int) ∧ (∀ h, h < k → In f last h → asd h ≠ -1) ∧ Below wr.heap.size wr wr2
theorem ARel.next {f asd : Nat → Int} {last k : Nat} (h : ∀ h, h < k → In f last h → asd h ≠ -1) (h1 : asd k ≠ -1 ∨ inW f last k = false) : ∀ h, h < k + 1 → In f last h → asd h ≠ -1 := fun j hj hi => by
  by_cases e : j = k
  · subst e
    rcases h1 with g | g
    · exact g
    · rw [inW_iff.2 hi] at g; cases g
  · exact h j (by omega) hi

theorem Seek.asks {N : Nat} {E : Nat → Nat → Prop} {ab be asd : Nat → Int} {low : Nat} {rk : Nat → Nat} {t : Nat} {path : List Nat} (s : Seek N E ab be asd low rk t path) {k : Nat} (hk : asd k = -1) (hb : be k = -1) (x : Int) :
    ∀ h, h < N → upd asd k x h ≠ -1 → be h ≠ -1 → ∃ v : Nat, v < N ∧ upd asd k x h = v ∧ E v h ∧ (v = low ∨ ∃ j : Nat, j < N ∧ be j = v ∧ upd asd k x j ≠ -1 ∧ (if j = k then t else rk j) < (if h = k then t else rk h)) := by
  intro h hh h1 h2
  have e : h ≠ k := fun e => h2 (e ▸ hb)
  rw [upd_ne asd x e] at h1 ⊢
  obtain ⟨v, v1, v2, v3, v4, _⟩ := (s.asked h hh).resolve_left h1
  refine ⟨v, v1, v2, v3, v4.imp id fun ⟨j, j1, j2, j3, j4⟩ => ?_⟩
  have ej : j ≠ k := fun e => j3 (e ▸ hk)
  exact ⟨j, j1, j2, by rw [upd_ne asd x ej]; exact j3, by rw [if_neg ej, if_neg e]; exact j4⟩

set_option maxRecDepth 100000 in
set_option maxHeartbeats 8000000 in
theorem pair_any (HN : Hid NonesC) (w : World) (sb a b N sc ac bc : Nat) (f ab be : Nat → Int) (low : Nat) (hs : Arr w sb N f) (hsm : Small N f) (ha : Arr w a N ab) (hb : Arr w b N be) (n1 : a ≠ b) (hN : N ≤ 300) (hlow : low < N) (hd : Done N (In f) ab be low) :
    Calls Try.prog 31 #[.agg #[.slice (some ⟨sb, 0, none⟩) N sc, .slice (some ⟨a, 0, none⟩) N ac, .slice (some ⟨b, 0, none⟩) N bc], .int .i64 (low : Int)] w fun e w' => e = .returned (.tuple #[]) ∧ Keeps (fun x => x = a ∨ x = b) w w' ∧ ∃ ab be, Arr w' a N ab ∧ Arr w' b N be ∧ Done N (In f) ab be (low + 1) := by
  obtain ⟨b1, hnw, hs1⟩ := box3 w (.slice (some ⟨sb, 0, none⟩) N sc) (.slice (some ⟨a, 0, none⟩) N ac) (.slice (some ⟨b, 0, none⟩) N bc) 44
  obtain ⟨w1, hw1⟩ : ∃ w1, w1 = w.alloc (.cells #[.slice (some ⟨sb, 0, none⟩) N sc, .slice (some ⟨a, 0, none⟩) N ac, .slice (some ⟨b, 0, none⟩) N bc] 44) := ⟨_, rfl⟩
  rw [← hw1] at b1 hnw hs1
  have hnn := unhide HN w1 N (by omega) (by omega)
  obtain ⟨c0, c1, c2, d0, d1, d2⟩ := three_cells hnw
  have ls := hs.lt
  have la := ha.lt
  have lb := hb.lt
  have HS := hide (And.intro (hs.later b1) (And.intro (ha.later b1) (And.intro (hb.later b1) (And.intro hsm hd))))
  have HB := hide b1
  clear hs ha hb hsm hd b1
  go_enter Try.func31, Try.ntmps31
  go_wp2_with fail
  rw [← hw1]
  clear hw1
  go_step3
  go_wp2_with fail
  refine hnn.mono ?_
  clear hnn
  rintro e w2 ⟨kb, kc, rfl, hkb, hka, b2⟩
  have hs2 := b2.size
  have hkl := hka.lt
  obtain ⟨w3, hw3⟩ : ∃ w3, w3 = w2.alloc (.cells #[.int .i64 (low : Int)] 3) := ⟨_, rfl⟩
  have b3 : Below w2.heap.size w2 w3 := by rw [hw3]; exact (Below.refl _ w2).alloc (Nat.le_refl _) _
  have hs3 : w3.heap.size = w2.heap.size + 1 := by rw [hw3]; simp
  have hown : OwnI w2.heap.size w3 (.slice (some ⟨w2.heap.size, 0, none⟩) 1 1) (toI [low]) := by
    refine ⟨rfl, .inr ⟨w2.heap.size, 1, #[.int .i64 (low : Int)], rfl, Nat.le_refl _, ?_, Nat.le_refl _, by unfold maxLen; omega, rfl, rfl⟩⟩
    rw [hw3]
    exact World.alloc_heap_new _ _
  have HP : Hid (PRel N f ab be low w2.heap.size kb w3 (.slice (some ⟨w2.heap.size, 0, none⟩) 1 1) w3) :=
    ⟨[low], fun _ => -1, fun _ => 0, 0, hown, hka.later b3, Seek.start hlow, by rw [free_none]; simp; omega, Keeps.refl _ _⟩
  have hnw3 := (b3.block _ (by omega)).trans ((b2.block _ (by omega)).trans hnw)
  have HK := hide (And.intro ((unhide HB).trans (b2.mono (by omega))) b3)
  have HS3 := hide (And.intro (((unhide HS).1.later b2).later b3) (And.intro (((unhide HS).2.1.later b2).later b3) (((unhide HS).2.2.1.later b2).later b3)))
  obtain ⟨P, hP⟩ : ∃ P, P = w2.heap.size := ⟨_, rfl⟩
  rw [← hP] at HP hs3 hkl hs2
  have HPP := hide hP
  clear hown hka b2 b3 hnw c0 c1 c2 d0 d1 d2
  go_wp2_with fail
  rw [← hw3, ← hP]
  clear hw3 hP
  go_step3
  go_wp2_with fail
  go_loopw [5] (fun v wr => PRel N f ab be low P kb w3 v wr) (fun v wr => 2 * free N (asOf wr kb) + lenOf v)
  case atStart => exact unhide HP
  case round =>
    rename World => Wo
    obtain ⟨path, asd, rk, t, hown, hka, hseek, hcnt, hK⟩ := hrel
    have hbx := hK.same _ _ hnw3 (fun e => by omega)
    obtain ⟨c0, c1, c2, d0, d1, d2⟩ := three_cells hbx
    have hsa := (unhide HS3).1.keeps hK (fun e => by omega)
    have haa := (unhide HS3).2.1.keeps hK (fun e => by omega)
    have hba := (unhide HS3).2.2.keeps hK (fun e => by omega)
    have hws : w3.heap.size ≤ Wo.heap.size := hK.size
    have HBX := hide hbx
    have HD := hide (unhide HS).2.2.2.2
    have hKw : Keeps (fun x => x = a ∨ x = b) w Wo := (Keeps.of_below (O := fun x => x = a ∨ x = b) ((unhide HK).1.trans ((unhide HK).2.mono (by have := unhide HPP; omega)))).trans hK (fun x hx e => by omega)
    rcases List.eq_nil_or_concat path with hpe | ⟨p1, last, hpe⟩
    · subst hpe
      obtain ⟨va, vc, ev⟩ : ∃ va vc, u5 = .slice va 0 vc := by
        rcases hown.2 with ⟨h1, _⟩ | ⟨g, cap, cur, h1, _⟩
        · exact ⟨none, 0, h1⟩
        · exact ⟨_, cap, h1⟩
      subst ev
      have HF := hide (And.intro hKw (And.intro haa (And.intro hba ((unhide HD).fail hseek))))
      clear hown hka hseek hcnt hK hbx hsa haa hba hKw
      go_wp2_with fail
      simp only [Exit.noGoto]
      refine bodyPost_end (results_none rfl _ _ _) rfl ?_
      exact ⟨rfl, (unhide HF).1, ab, be, (unhide HF).2.1, (unhide HF).2.2.1, (unhide HF).2.2.2⟩
    · rw [List.concat_eq_append] at hpe
      subst hpe
      have hlen : (toI (p1 ++ [last])).length = p1.length + 1 := by rw [toI_len]; simp
      obtain ⟨g, c, ev, hg1, hg2, hg3, hg4⟩ := hown.shape (by rw [toI_snoc]; simp)
      rw [hlen] at ev hg3
      subst ev
      obtain ⟨hlastN, _⟩ := hseek.row last (by simp)
      obtain ⟨y0, _⟩ := hown.cell (j := p1.length) (by rw [hlen]; omega)
      have y1 : (toI (p1 ++ [last]))[p1.length]'(by rw [hlen]; omega) = (last : Int) := by simp [toI]
      rw [y1] at y0
      clear y1
      obtain ⟨n, hn⟩ : ∃ n, n = p1.length := ⟨_, rfl⟩
      rw [← hn] at y0 hg3
      have HF := hide (And.intro hown (And.intro hka (And.intro hseek (And.intro hcnt (And.intro hK (And.intro hsa (And.intro haa (And.intro hba hKw))))))))
      have hn2 : n ≤ 1000 := by
        rw [List.length_append] at hcnt
        simp only [List.length_cons, List.length_nil] at hcnt
        omega
      have HN1 := hide hn
      clear hown hka hseek hcnt hK hbx hsa haa hba hKw hlen
      rw [← hn]
      clear hn
      go_wp2_with fail
      go_loopw [5, 26] (fun v i wr => v = .slice (some ⟨g, 0, none⟩) (n + 1) c ∧ ARel N f asd last Wo i wr) (fun _ i _ => N - (intOf i).toNat)
      case atStart => exact ⟨rfl, 0, Nat.zero_le _, rfl, fun h hh => by omega, Below.refl _ _⟩
      case round =>
        obtain ⟨rfl, k, hk, rfl, hno, hb2⟩ := hrel
        obtain ⟨hown, hka, hseek, hcnt, hK, hsa, haa, hba, hKw⟩ := unhide HF
        have hws2 := hb2.size
        have hbx := (hb2.block _ (by omega)).trans (unhide HBX)
        obtain ⟨c0, c1, c2, d0, d1, d2⟩ := three_cells hbx
        have HBX2 := hide hbx
        by_cases hkN : k < N
        · obtain ⟨x0, x1⟩ := (hka.later hb2).cell hkN
          by_cases hask : asd k = -1
          · rw [hask] at x0
            have hwi := within_any wr sb N sc _ _ (some ⟨a, 0, none⟩) (some ⟨b, 0, none⟩) N ac N bc rfl rfl f (hsa.later hb2) (unhide HS).2.2.2.1 last k hlastN hkN
            have HI := hide (And.intro hno (And.intro hb2 hask))
            clear hown hka hseek hcnt hK hsa haa hba hKw hno hb2 hask hbx
            go_wp2_with fail
            refine hwi.mono ?_
            clear hwi
            rintro e w5 ⟨rfl, b5⟩
            obtain ⟨hno, hb2, hask⟩ := unhide HI
            obtain ⟨hown, hka, hseek, hcnt, hK, hsa, haa, hba, hKw⟩ := unhide HF
            have hb5 := hb2.trans (b5.mono hws2)
            have hws5 := hb5.size
            cases hin : inW f last k with
            | false =>
              have HI2 := hide (And.intro (ARel.next hno (.inr hin)) hb5)
              clear hown hka hseek hcnt hK hsa haa hba hKw hno hb2 hask b5 hb5 hin HI
              go_wp2_with fail
              go_roundw
              case rel => exact ⟨rfl, k + 1, by omega, by go_num, (unhide HI2).1, (unhide HI2).2⟩
              case measure => simp [intOf]; omega
            | true =>
              obtain ⟨w6, hw6⟩ : ∃ w6, w6 = w5.setCell ⟨kb, k, none⟩ (.int .i64 (last : Int)) := ⟨_, rfl⟩
              have hK6 : Keeps (fun x => x = kb) w5 w6 := by rw [hw6]; exact (Keeps.refl (fun x => x = kb) w5).setCell ⟨kb, k, none⟩ rfl _
              have hka5 := hka.later hb5
              obtain ⟨z0, z1⟩ := hka5.cell hkN
              rw [hask] at z0
              have hka6 : Arr w6 kb N (upd asd k last) := by rw [hw6]; exact hka5.set _ hkN
              have hba6 := (hba.later hb5).keeps hK6 (fun e => by omega)
              have haa6 := (haa.later hb5).keeps hK6 (fun e => by omega)
              have hown6 : OwnI P w6 (.slice (some ⟨g, 0, none⟩) (n + 1) c) (toI (p1 ++ [last])) := by
                rw [unhide HN1]
                exact ((hown.keeps (O := fun _ => False) (Keeps.of_below hb5) (fun _ _ e => e))).keeps hK6 (fun x hx e => by simp only [Value.ownBlock, Option.some.injEq] at hx; omega)
              obtain ⟨e0, e1, e2, q0, q1, q2⟩ := three_cells ((hb5.block _ (by omega)).trans (unhide HBX))
              obtain ⟨f0, f1⟩ := (hba.later hb5).cell hkN
              have k1 : kb ≠ w.heap.size := by omega
              have k2 : kb ≠ b := by omega
              have hE : In f last k := inW_iff.1 hin
              have hKw6 : Keeps (fun x => x = a ∨ x = b) w w6 := (hKw.trans (Keeps.of_below (O := fun x => x = a ∨ x = b) hb5) (fun _ _ e => e)).trans hK6 (fun x hx e => by omega)
              have hK36 : Keeps (fun x => x = kb ∨ P ≤ x) w3 w6 := (hK.trans (Keeps.of_below (O := fun x => x = kb ∨ P ≤ x) hb5) (fun _ _ e => e)).trans hK6 (fun x hx e => .inl e)
              have hs6 := hK6.size
              by_cases hbe : be k = -1
              · rw [hbe] at f0
                obtain ⟨A, B, hD, hA3, hG⟩ := (unhide HD).found hseek hlow (by simp) hkN hask hE hbe
                have hgw := giveWay_any w6 (.slice (some ⟨sb, 0, none⟩) N sc) (some ⟨sb, 0, none⟩) N sc rfl a b kb N ac bc kc (In f) ab be (upd asd k last) low _ A B k haa6 hba6 hka6 n1 (by omega) (by omega) hG hlow (unhide HD).1 hD hA3 (unhide HD).2.2 (hseek.asks hask hbe last)
                have HE := hide hKw6
                clear hown hka hseek hcnt hK hsa haa hba hKw hno hb2 hask b5 hb5 hin HI hK6 hka5 hka6 hba6 haa6 hown6 hE hKw6 hK36 hD hA3 hG
                subst hw6
                go_wp2_with fail
                refine hgw.mono ?_
                clear hgw
                rintro e w8 ⟨rfl, hK8, ab', be', h1, h2, h3⟩
                have HE8 := hide (And.intro hK8 (And.intro h1 (And.intro h2 h3)))
                clear hK8 h1 h2 h3
                go_wp2_with fail
                simp only [Exit.noGoto]
                refine bodyPost_ret (results_none rfl _ _ _) rfl ?_
                exact ⟨rfl, (unhide HE).trans (unhide HE8).1 (fun _ _ e => e), ab', be', (unhide HE8).2⟩
              · obtain ⟨u, hu, hbu⟩ : ∃ u : Nat, u < N ∧ be k = u := by
                  obtain ⟨i, i1, i2, _⟩ := ((unhide HD).1.dn k hkN).resolve_left hbe
                  exact ⟨i, i1, i2⟩
                rw [hbu] at f0
                have hpush := hseek.push (last := last) (by simp) hkN hask hE hu hbu
                obtain ⟨r, w7, hrun, hown7, hK7, hr7⟩ := app1_run w6 _ _ (u : Int) hown6 (by omega) (by rw [toI_len]; simp; have := unhide HN1; omega)
                have hz : w6.heap.size = w5.heap.size := by rw [hw6]; simp [World.setCell]
                rw [hz] at hrun
                have HRUN := hide hrun
                have HE := hide (And.intro hK36 (And.intro hpush (And.intro hown7 (And.intro hK7 (And.intro hka6 hcnt)))))
                have hfr : Hid (free N (upd asd k last) + 1 = free N asd ∧ free N (asOf Wo kb) = free N asd) := ⟨free_upd hkN hask (by omega), free_asOf hka⟩
                clear hown hka hseek hcnt hK hsa haa hba hKw hno hb2 hask b5 hb5 hin HI hK6 hka5 hka6 hba6 haa6 hown6 hE hKw6 hK36 hpush hown7 hK7 hr7 hrun hbe
                subst hw6
                go_wp2_with (at_builtin; refine wpList_append_run _ rfl _ _ 22 rfl _ _ rfl rfl _ _ (unhide HRUN) ?_)
                obtain ⟨hK36, hpush, hown7, hK7, hka6, hcnt⟩ := unhide HE
                have hka7 := hka6.keeps hK7 (fun e => by simp only [Value.ownBlock, Option.some.injEq] at e; omega)
                have hl7 := hown7.lenOf
                rw [List.length_append, toI_len] at hl7
                simp only [List.length_append, List.length_cons, List.length_nil] at hl7 hcnt
                have hnp := unhide HN1
                have hf7 := free_asOf hka7
                obtain ⟨hfr1, hfr2⟩ := unhide hfr
                refine ⟨⟨p1 ++ [last] ++ [u], upd asd k last, _, t + 1, by rw [toI_snoc]; exact hown7, hka7, hpush, ?_, hK36.trans hK7 (fun x _ e => ?_)⟩, ?_⟩
                · simp only [List.length_append, List.length_cons, List.length_nil]
                  omega
                · simp only [Value.ownBlock, Option.some.injEq] at e
                  exact .inr (by omega)
                · rw [hf7, hfr2, hl7]
                  simp only [lenOf]
                  omega
          · have hask2 : (asd k != -1) = true := by simpa using hask
            have HI := hide (And.intro (ARel.next hno (.inl hask)) hb2)
            generalize asd k = ak at x0 hask2
            clear hown hka hseek hcnt hK hsa haa hba hKw hno hb2 hask hbx
            go_wp2_with fail
            go_roundw
            case rel => exact ⟨rfl, k + 1, by omega, by go_num, (unhide HI).1, (unhide HI).2⟩
            case measure => simp [intOf]; omega
        · have hkN2 : k = N := by omega
          subst hkN2
          have HI := hide (And.intro hno hb2)
          clear hown hka hseek hcnt hK hsa haa hba hKw hno hb2 hbx
          go_wp2_with fail
          obtain ⟨hown, hka, hseek, hcnt, hK, hsa, haa, hba, hKw⟩ := unhide HF
          obtain ⟨hno, hb2⟩ := unhide HI
          have hka7 := hka.later hb2
          have hnp := unhide HN1
          rw [List.length_append] at hcnt
          simp only [List.length_cons, List.length_nil] at hcnt
          refine ⟨⟨p1, asd, rk, t, ?_, hka7, hseek.pop hno, by omega, hK.trans (Keeps.of_below (O := fun x => x = kb ∨ P ≤ x) hb2) (fun _ _ e => e)⟩, ?_⟩
          · have h1 := hown.keeps (O := fun _ => False) (Keeps.of_below hb2) (fun _ _ e => e)
            rw [toI_snoc] at h1
            have h2 := h1.cut
            rw [toI_len, ← hnp] at h2
            exact h2
          · rw [free_asOf hka7, free_asOf hka]
            simp only [lenOf]
            omega
end Go.Proofs.Ytclialdbaclpoaa
