/- BtreePlays: a call of the other one. -/
import Derived.Test.YtmjlhmhkbfnccaaPQE
import Derived.Test.YtmjlhmhkbfnccaaLawD
namespace Go.Proofs.Ytmjlhmhkbfnccaa
open Go.RowKit Go.Shelf Go.Maps

set_option maxRecDepth 100000 in
set_option maxHeartbeats 8000000 in
theorem does_1 (S : Nat → Prop) (W w : World) (tb s h s' h' : Nat) (cs : Array Value) (o o' : List Int) (A A' : List (List Int)) (kind on k : Int) (tv : Value) (x : List Int) (hP : Pl S W w tb s h s' h' 1 4 0 2 cs o o' A A') (hx : Ints W.heap.size w tv x) (hB : Bnd x) (hn : x.length * 8 ≤ 140737488355328) (hon : bits .and .i64 on 1 = 1) :
    Calls Try.prog 11 #[.pointer (some ⟨tb, 0, none⟩), .agg #[.int .i64 kind, .int .i64 on, .int .i64 k, tv]] w fun e w' => e = .returned (.bool true) ∧ ∃ cs' o2 o2' A2 A2', Pl S W w' tb s h s' h' 1 4 0 2 cs' o2 o2' A2 A2' := by
  obtain ⟨xa, xc, rfl, _⟩ := id hx
  obtain ⟨w1, hw1⟩ : ∃ w1, w1 = w.alloc (.cells #[.int .i64 kind, .int .i64 on, .int .i64 k, .slice xa x.length xc] 29) := ⟨_, rfl⟩
  have b1 : Below w.heap.size w w1 := by rw [hw1]; exact (Below.refl _ w).alloc (Nat.le_refl _) _
  have hbox : w1.heap[w.heap.size]? = some (.cells #[.int .i64 kind, .int .i64 on, .int .i64 k, .slice xa x.length xc] 29 (0, 0)) := by rw [hw1]; exact World.alloc_heap_new _ _
  have hQ1 : Dq S W w1 tb s h s' h' 1 4 0 2 cs o o' A A' w.heap.size kind on k (.slice xa x.length xc) x := ⟨hP.later b1, hbox, hx.below (b1.mono hP.bel.size) (Nat.le_refl _)⟩
  obtain ⟨a0, a1, a2, a3⟩ := hQ1.acts
  obtain ⟨oa, oc, ta, tc, oa', oc', ta', tc', c0, c1, c2, c3, c4, c5, _⟩ := hQ1.pl.cells
  have HQ1 := hide hQ1
  have mixed : Try.prog.follows .mixedOrders = true := by kernel_rfl
  clear hP hx b1 hbox hQ1
  go_enter Try.func11, Try.ntmps11
  go_wp2_with fail
  rw [← hw1]
  clear hw1
  obtain ⟨bx, hbx⟩ : ∃ b, b = w.heap.size := ⟨_, rfl⟩
  rw [← hbx] at a0 a1 a2 a3 HQ1
  rw [← hbx]
  clear hbx
  go_quiet (fail)
  generalize hwq : World.drewN w1 _ = wq
  have bq : Below w1.heap.size w1 wq := by rw [← hwq]; exact below_drewN (Below.refl _ _) _
  have hQ := (unhide HQ1).later bq
  clear HQ1 a0 a1 a2 a3 c0 c1 c2 c3 c4 c5 hwq bq
  obtain ⟨a0, a1, a2, a3⟩ := hQ.acts
  obtain ⟨oa, oc, ta, tc, oa', oc', ta', tc', c0, c1, c2, c3, c4, c5, f2, f3, f4, f5, l1, l2, l3, l4, l5, l6⟩ := hQ.pl.cells
  have HQ := hide hQ
  have HL := hide (And.intro l1 (And.intro l2 (And.intro l3 (And.intro l4 (And.intro l5 l6)))))
  clear l1 l2 l3 l4 l5 l6 hQ
  go_wp2_with fail
  · have hQd := (unhide HQ).later ((Below.refl _ wq).drew)
    have h1 := has_T S wq.drew s h o x A _ hQd.pl.t hQd.ints
    obtain ⟨bb, hbb⟩ : ∃ bb, bb = (fitB o x && A.contains x) := ⟨_, rfl⟩
    rw [← hbb] at h1
    have HBB := hide hbb
    clear hQd hbb
    go_region_with (first
      | (go_at_call 19; refine h1.mono ?_; clear h1; rintro e v1 ⟨rfl, b1'⟩; have hQ2 := (unhide HQ).later (((Below.refl _ wq).drew).trans b1'); have d3 := hQ2.acts.2.2.2; have h2 := rhas_at S v1 tb 4 cs o x A _ hQ2.pl.r hQ2.pl.t.ok hQ2.pl.t.up hQ2.ints; rw [← unhide HBB] at h2; have HQ2 := hide hQ2; clear hQ2 b1')
      | (go_at_call 28; refine h2.mono ?_; clear h2; rintro e v2 ⟨rfl, b2'⟩; have HQ3 := hide ((unhide HQ2).later b2'); clear b2'))
    all_goals
      go_wp2_with fail
      go_ret
      exact ⟨ret_bool (by simp), _, _, _, _, _, (unhide HQ3).pl⟩
  · have hQd := (unhide HQ).later ((Below.refl _ wq).drew)
    have h1 : Calls Try.prog 21 #[.pointer (some ⟨s, 0, none⟩), .int .i64 k, .slice xa x.length xc] wq.drew fun e v1 => ∃ lb, e = .returned (.func (.func 45) #[] lb) ∧ (v1.cell? ⟨bx, 2, none⟩ = some (.int .i64 k) ∧ v1.cell? ⟨bx, 3, none⟩ = some (.slice xa x.length xc)) ∧ Calls Try.prog 17 #[.func (.func 45) #[] lb] v1 fun e v2 => ∃ ra rn rc, e = .returned (.slice ra rn rc) ∧ (v2.cell? ⟨bx, 2, none⟩ = some (.int .i64 k) ∧ v2.cell? ⟨bx, 3, none⟩ = some (.slice xa x.length xc)) ∧
        Calls Try.prog 29 #[.pointer (some ⟨tb, 4, none⟩), .int .i64 k, .slice xa x.length xc] v2 fun e v3 => ∃ ra3 rn3 rc3, e = .returned (.slice ra3 rn3 rc3) ∧ (v3.cell? ⟨bx, 2, none⟩ = some (.int .i64 k) ∧ v3.cell? ⟨bx, 3, none⟩ = some (.slice xa x.length xc)) ∧ Calls Try.prog 16 #[.slice ra rn rc, .slice ra3 rn3 rc3] v3 fun e v4 => e = .returned (.bool true) ∧ (v4.cell? ⟨bx, 2, none⟩ = some (.int .i64 k) ∧ v4.cell? ⟨bx, 3, none⟩ = some (.slice xa x.length xc)) ∧ Pl S W v4 tb s h s' h' 1 4 0 2 cs o o' A A' := by
      refine (range_T S wq.drew s h o x k A _ hQd.pl.t hQd.ints hn hQd.pl.nw).mono ?_
      rintro e v1 ⟨lb1, its1, rfl, hg1, he1, hn1, b1'⟩
      have hQ2 := hQd.later b1'
      refine ⟨lb1, rfl, hQ2.acts.2.2, (list_G v1 _ lb1 its1 _ _ hg1 eg_range hn1 he1).mono ?_⟩
      rintro e v2 ⟨rv2, rfl, hL2, b2'⟩
      have hQ3 := hQ2.later b2'
      obtain ⟨_, ⟨ra2, rc2, e2, _⟩, _⟩ := id hL2
      subst e2
      refine ⟨_, _, _, rfl, hQ3.acts.2.2, (rrange_at S v2 tb 4 cs o x k A _ hQ3.pl.r hQ3.ints hQ3.pl.t.up.2.2.1).mono ?_⟩
      rintro e v3 ⟨rv3, rfl, hL3, b3'⟩
      obtain ⟨_, ⟨ra3, rc3, e3, _⟩, _⟩ := id hL3
      subst e3
      have hsm := rsame_any (fun _ => True) v3 _ _ _ _ ((hL2.later b3').mono (fun _ _ _ => trivial)) hL3
      rw [show sameLB (A.filter (fun y => headA o k y x)) (A.filter (fun y => headA o k y x)) = true by simp [sameLB]] at hsm
      refine ⟨_, _, _, rfl, (hQ3.later b3').acts.2.2, hsm.mono ?_⟩
      rintro e v4 ⟨rfl, b4'⟩
      exact ⟨rfl, ((hQ3.later b3').later b4').acts.2.2, ((hQ3.later b3').later b4').pl⟩
    have D0 := hQd.acts.2.2
    clear hQd c0 c1 c2 c3 c4 c5 f2 f3 f4 f5
    refine region_mixN (md := [(0, true), (1, true), (2, true), (3, true), (4, true), (7, true), (8, true), (9, true), (10, true), (11, true), (5, false), (6, false), (12, false), (13, false), (14, true)]) (fun w' => w'.cell? ⟨bx, 2, none⟩ = some (.int .i64 k) ∧ w'.cell? ⟨bx, 3, none⟩ = some (.slice xa x.length xc)) mixed (by kernel_rfl) rfl (by kernel_rfl) (fun PP hPP => ?_)
    iterate 10 (refine wpMix_take (v := ?_) rfl (by kernel_rfl) (fun w' hw => ?_) ?_; rotate_left; · (obtain ⟨q2, q3⟩ := hw; go_simp; try with_reducible rfl))
    refine wpMix_force rfl D0 (fun K hK => ?_)
    go_simp
    refine h1.mono ?_; clear h1; rintro e v1 ⟨lb1, rfl, D1, hli⟩; have HD1 := hide D1; clear D1
    go_wp2_with fail
    refine wpMix_force rfl (unhide HD1) (fun K hK => ?_)
    go_simp
    refine hli.mono ?_; clear hli; rintro e v2 ⟨ra2, rn2, rc2, rfl, D2, hrr⟩; have HD2 := hide D2; clear D2
    go_wp2_with fail
    refine wpMix_force rfl (unhide HD2) (fun K hK => ?_)
    go_simp
    refine hrr.mono ?_; clear hrr; rintro e v3 ⟨ra3, rn3, rc3, rfl, D3, hsm⟩; have HD3 := hide D3; clear D3
    go_wp2_with fail
    refine wpMix_force rfl (unhide HD3) (fun K hK => ?_)
    go_simp
    refine hsm.mono ?_; clear hsm; rintro e v4 ⟨rfl, D4, hP5⟩; have HP5 := hide hP5; have HD4 := hide D4; clear hP5 D4
    go_wp2_with fail
    iterate 1 (refine wpMix_take (v := ?_) rfl (by kernel_rfl) (fun w' hw => ?_) ?_; rotate_left; · (obtain ⟨q2, q3⟩ := hw; go_simp; try with_reducible rfl))
    refine wpMix_nil (unhide HD4) (hPP _ _ ?_)
    clear hPP
    go_wp2_with fail
    go_ret
    exact ⟨rfl, _, _, _, _, _, unhide HP5⟩
  · have hQd := (unhide HQ).later ((Below.refl _ wq).drew)
    have h1 := from_T S wq.drew s h o x A _ hQd.pl.t hQd.ints hn hQd.pl.nw
    obtain ⟨F, hF⟩ : ∃ F, F = fromL o x A := ⟨_, rfl⟩
    rw [← hF] at h1
    have HF := hide hF
    clear hQd hF
    go_region_with (first
      | (go_at_call 22; refine h1.mono ?_; clear h1; rintro e v1 ⟨lb1, its1, rfl, hg1, he1, hn1, b1'⟩; have hli := list_G v1 _ lb1 its1 _ _ hg1 eg_from hn1 he1; have hQ2 := (unhide HQ).later (((Below.refl _ wq).drew).trans b1'); obtain ⟨_, _, d2, d3⟩ := hQ2.acts; have HQ2 := hide hQ2; clear hQ2 b1' hg1 he1 hn1)
      | (go_at_call 17; refine hli.mono ?_; clear hli; rintro e v2 ⟨rv2, rfl, hL2, b2'⟩; have hrv : ∃ ra rn rc, rv2 = .slice ra rn rc := (by obtain ⟨_, ⟨ra, rc, e, _⟩, _⟩ := id hL2; exact ⟨ra, _, rc, e⟩); obtain ⟨ra2, rn2, rc2, rfl⟩ := hrv; have hQ3 := (unhide HQ2).later b2'; obtain ⟨_, _, g2, g3⟩ := hQ3.acts; have hrr := rfrom_at S v2 tb 4 cs o x A _ hQ3.pl.r hQ3.pl.t.ok hQ3.pl.t.up hQ3.ints; rw [← unhide HF] at hrr; have HQ3 := hide (And.intro hL2 hQ3); clear hL2 hQ3 b2')
      | (go_at_call 30; refine hrr.mono ?_; clear hrr; rintro e v3 ⟨rv3, rfl, hL3, b3'⟩; have hrv : ∃ ra rn rc, rv3 = .slice ra rn rc := (by obtain ⟨_, ⟨ra, rc, e, _⟩, _⟩ := id hL3; exact ⟨ra, _, rc, e⟩); obtain ⟨ra3, rn3, rc3, rfl⟩ := hrv; have hsm := rsame_any (fun _ => True) v3 _ _ _ _ (((unhide HQ3).1.later b3').mono (fun _ _ _ => trivial)) hL3; have e2 : sameLB F F = true := (by simp [sameLB]); rw [e2] at hsm; have HQ4 := hide ((unhide HQ3).2.later b3'); clear hL3 b3' e2)
      | (go_at_call 16; refine hsm.mono ?_; clear hsm; rintro e v4 ⟨rfl, b4'⟩; have HQ5 := hide ((unhide HQ4).later b4'); clear b4'))
    all_goals
      go_wp2_with fail
      go_ret
      exact ⟨rfl, _, _, _, _, _, (unhide HQ5).pl⟩
  · have hm := merge_T S wq s h s' h' o o' A A' (unhide HQ).pl.t (unhide HQ).pl.t' (unhide HQ).pl.ne.1 (unhide HQ).pl.nw (unhide HQ).pl.nS.1 (unhide HQ).pl.nS.2.1
    obtain ⟨R, hR⟩ : ∃ R, R = mergeE o o' A' A := ⟨_, rfl⟩
    rw [← hR] at hm
    refine hm.mono ?_
    clear hm
    rintro e v1 ⟨rfl, ht, ht', hK⟩
    obtain ⟨q1, q2, q3, q4, q5⟩ := (unhide HQ).pl.own ht hK
    obtain ⟨ov2, tv2, hat2, i2, i3, _⟩ := q3.cells
    have hrm := rmerge_at S v1 tb 4 cs o o' A A' ov2 tv2 q2 ht.ok (unhide HQ).pl.t.up i2 i3 ht'.up q4
    rw [← hR] at hrm
    obtain ⟨oa2, oc2, rfl, _⟩ := id i2
    obtain ⟨_, ⟨ta2, tc2, rfl, _⟩, _⟩ := id i3
    obtain ⟨z0, z1, _⟩ := hat2.cells
    have HC := hide (And.intro ht hK)
    clear ht ht' hK q1 q2 q3 q4 q5 hat2 i2 i3 hR
    obtain ⟨m, ee, A2⟩ := R
    simp only at HC hrm ⊢
    go_wp2_with fail
    refine hrm.mono ?_
    clear hrm
    rintro e v2 ⟨rfl, ⟨v, hr2⟩, hK2⟩
    have HP := hide ((unhide HQ).pl.both (unhide HC).1 (unhide HC).2 hr2 hK2)
    clear hr2 hK2
    go_wp2_with fail
    go_ret
    exact ⟨ret_bool (by simp), _, _, _, _, _, unhide HP⟩
  · have hs := swap_T S wq s h s' h' o o' A A' (unhide HQ).pl.t (unhide HQ).pl.t' (unhide HQ).pl.ne.1
    have hO : ∀ b, b < wq.heap.size → S b → ¬ (b = h ∨ b = h') := fun b _ hs e => by rcases e with e | e; exact (unhide HQ).pl.nS.1 (e ▸ hs); exact (unhide HQ).pl.nS.2.1 (e ▸ hs)
    have hnt : ¬ (tb = h ∨ tb = h') := fun e => by rcases e with e | e; exact (unhide HQ).pl.ne.2.1 e.symm; exact (unhide HQ).pl.ne.2.2 e.symm
    refine hs.mono ?_
    clear hs
    rintro e v1 ⟨rfl, hy, hno, hK⟩
    have q2 := (unhide HQ).pl.r.keeps hK hnt hO
    have q3 := (unhide HQ).pl.r'.keeps hK hnt hO
    obtain ⟨ov1, tv1, hat1, i1, i1', _⟩ := q2.cells
    obtain ⟨ov2, tv2, hat2, i2, i3, _⟩ := q3.cells
    obtain ⟨oa1, oc1, rfl, _⟩ := id i1
    obtain ⟨_, ⟨ta1, tc1, rfl, _⟩, _⟩ := id i1'
    obtain ⟨oa2, oc2, rfl, _⟩ := id i2
    obtain ⟨_, ⟨ta2, tc2, rfl, _⟩, _⟩ := id i3
    obtain ⟨y0, y1, y2, y3⟩ := hat1.cells
    obtain ⟨z0, z1, z2, z3⟩ := hat2.cells
    have HC := hide (And.intro hK (And.intro hat1 hat2))
    clear hO hnt q2 q3 i1 i1' i2 i3 hat1 hat2 hK
    cases hfit : fitB o o' with
    | false =>
      have hpe : pairE o o' = 14 := by rw [pairE, hfit]; rfl
      have hne : ((o.length : Int) != (o'.length : Int)) = true := by
        have := hfit
        unfold fitB at this
        simp at this ⊢
        omega
      have HN := hide (hno hfit)
      rw [hpe]
      clear hy hno hfit hpe
      go_wp2_with fail
      go_quiet (fail)
      go_wp2_with fail
      go_ret
      exact ⟨rfl, _, _, _, _, _, ((unhide HQ).pl.unswapped (unhide HN).1 (unhide HN).2 (unhide HC).1).later (below_drewN (Below.refl _ _) _)⟩
    | true =>
      have hpe : pairE o o' = 0 := by rw [pairE, hfit]; rfl
      have hne : ((o.length : Int) != (o'.length : Int)) = false := by
        have := hfit
        unfold fitB at this
        simp at this ⊢
        omega
      have HN := hide (hy hfit)
      rw [hpe]
      clear hy hno hfit hpe
      go_wp2_with fail
      go_quiet (fail)
      generalize hwz : World.drewN v1 _ = vz
      have bz : Below v1.heap.size v1 vz := by rw [← hwz]; exact below_drewN (Below.refl _ _) _
      obtain ⟨hK, hat1, hat2⟩ := unhide HC
      have hat1 := hat1.later bz
      have hat2 := hat2.later bz
      clear y0 y1 y2 y3 z0 z1 z2 z3
      obtain ⟨y0, y1, y2, y3⟩ := hat1.cells
      obtain ⟨z0, z1, z2, z3⟩ := hat2.cells
      have HSW : Hid (∀ wz, wz = ((((vz.setCell ⟨tb, 2, none⟩ (.slice oa1 o.length oc1)).setCell ⟨tb, 3, none⟩ (.slice ta1 A.length tc1)).setCell ⟨tb, 4, none⟩ (.slice oa2 o'.length oc2)).setCell ⟨tb, 5, none⟩ (.slice ta2 A'.length tc2)) → ∃ cs' o2 o2' A2 A2', Pl S W wz tb s h s' h' 1 4 0 2 cs' o2 o2' A2 A2') := fun wz hz => by
        obtain ⟨_, _, x4, x5⟩ := hat1
        obtain ⟨_, _, x2, x3⟩ := hat2
        exact ⟨_, _, _, _, _, (unhide HQ).pl.swapped ((unhide HN).1.later bz) ((unhide HN).2.later bz) (hK.trans (Keeps.of_below (O := fun b => b = h ∨ b = h') bz) (fun _ _ e => e)) x2 x3 x4 x5 hz⟩
      clear hat1 hat2 hK bz hwz
      go_wp2_with fail
      go_region
      all_goals
        go_wp2_with fail
        go_ret
        obtain ⟨cs2, o2, o2', A2, A2', hp⟩ := unhide HSW _ rfl
        exact ⟨rfl, _, _, _, _, _, hp.later ((Below.refl _ _).drew)⟩
  · have hc := clear_T S wq s h o A (unhide HQ).pl.t
    refine hc.mono ?_
    clear hc
    rintro e v1 ⟨⟨u, rfl⟩, ht, hK⟩
    have hr := ((unhide HQ).pl.own ht hK).2.1
    obtain ⟨_, _, hat, _⟩ := hr.cells
    obtain ⟨z0, z1, y0, y1⟩ := hat.cells
    have HC := hide (And.intro ht (And.intro hK (And.intro hr hat)))
    clear ht hK hr hat
    go_wp2_with fail
    go_ret
    obtain ⟨ht, hK, hr, hat⟩ := unhide HC
    have hK2 : Keeps (fun b => b = tb) v1 (v1.setCell ⟨tb, 5, none⟩ (.slice none 0 0)) := (Keeps.refl (fun b => b = tb) v1).setCell ⟨tb, 5, none⟩ rfl _
    have hst : Stays S v1 (v1.setCell ⟨tb, 5, none⟩ (.slice none 0 0)) := hK2.stays (fun b _ hs e => (unhide HQ).pl.nS.2.2 (e ▸ hs))
    obtain ⟨ov, tv, q1, q2, _⟩ := hr.cells
    have hr2 : RAt S (v1.setCell ⟨tb, 5, none⟩ (.slice none 0 0)) tb 4 (cs.setIfInBounds (4 + 1) (.slice none 0 0)) o [] := ⟨⟨ov, _, At2.set q1 _, q2.stays hst, ⟨fun _ => undef, Row.nil _ _ _, fun j hj => (by cases hj)⟩, fun _ => rfl⟩, hr.ns⟩
    exact ⟨rfl, _, _, _, _, _, (unhide HQ).pl.both ht hK hr2 hK2⟩
  · have hin := insert_T S wq s h o x A _ (unhide HQ).pl.t (unhide HQ).ints hB (unhide HQ).pl.nw
    generalize hb1 : insBL o x A = ib at hin
    generalize he1 : insEL o x A = ie at hin
    refine hin.mono ?_
    clear hin
    rintro e v1 ⟨rfl, ht, hK⟩
    obtain ⟨q1, q2, q3, q4, q5⟩ := (unhide HQ).pl.own ht hK
    have hx1 : Ints v1.heap.size v1 (.slice xa x.length xc) x := ((unhide HQ).hx.below (hK.below (unhide HQ).pl.bel.size (fun b e => by have := (unhide HQ).pl.lW.1; omega)) (Nat.le_refl _)).mono q5.size
    have hr := rinsert_at S v1 tb 4 cs o x A _ q2 ht.ok (unhide HQ).pl.t.up hx1 q4
    rw [hb1, he1] at hr
    have hbxn : bx ≠ h := fun e => by
      obtain ⟨l, hl, _⟩ := (unhide HQ).pl.t
      obtain ⟨_, _, _, hh, _⟩ := hl.held
      have := (unhide HQ).act
      rw [e, hh] at this
      simp at this
    have hact := hK.same _ _ (unhide HQ).act hbxn
    have d3 : v1.cell? ⟨bx, 3, none⟩ = some (.slice xa x.length xc) := by rw [cell_at hact]; rfl
    have HC := hide (And.intro ht hK)
    clear ht hK q1 q2 q3 q4 q5 hx1 hb1 he1 hact hbxn
    go_wp2_with fail
    refine hr.mono ?_
    clear hr
    rintro e v2 ⟨rfl, ⟨v, hr2⟩, hK2⟩
    have HP := hide ((unhide HQ).pl.both (unhide HC).1 (unhide HC).2 hr2 hK2)
    clear hr2 hK2
    go_wp2_with fail
    go_ret
    exact ⟨ret_bool (by simp), _, _, _, _, _, unhide HP⟩
end Go.Proofs.Ytmjlhmhkbfnccaa
