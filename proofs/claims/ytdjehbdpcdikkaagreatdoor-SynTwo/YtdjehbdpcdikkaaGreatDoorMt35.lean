/- slices.Equal at vestry/vestryref09.fields. slices.Equal at vestry/vestryref09.texts. The document's SameExprs and SameExpr, places aside. -/
import Derived.Test.YtdjehbdpcdikkaaGreatDoorMt25
import Derived.Test.YtdjehbdpcdikkaaGreatDoorMt29
import Derived.Test.YtdjehbdpcdikkaaGreatDoorMt34
namespace Go.Proofs.YtdjehbdpcdikkaaGreatDoor
open Go.RowKit Go.Maps


set_option maxRecDepth 100000 in
set_option maxHeartbeats 8000000 in
theorem requal_f {S : Nat → Prop} {w : World} {va vb : Value} {xs ys : List Fld} (ha : LsAt PF 2 S w va xs) (hb : LsAt PF 2 S w vb ys) :
  Calls Tryz.prog 68 #[va, vb] w fun en w' => en = .returned (.bool (eqL eqFd xs ys)) ∧ Below w.heap.size w w' := by
 obtain ⟨a1, p1, e1⟩ := ha.sl
 obtain ⟨a2, p2, e2⟩ := hb.sl
 have hm1 : xs.length ≤ p1 ∧ p1 ≤ maxLen := by
  obtain ⟨_, _, _, e, h1, h2, _⟩ := ha
  rw [e] at e1
  cases e1
  exact ⟨h1, h2⟩
 have hm2 : ys.length ≤ p2 ∧ p2 ≤ maxLen := by
  obtain ⟨_, _, _, e, h1, h2, _⟩ := hb
  rw [e] at e2
  cases e2
  exact ⟨h1, h2⟩
 unfold maxLen at hm1 hm2
 obtain ⟨n1, hn1⟩ : ∃ n, xs.length = n := ⟨_, rfl⟩
 obtain ⟨n2, hn2⟩ : ∃ n, ys.length = n := ⟨_, rfl⟩
 rw [hn1] at e1 hm1
 rw [hn2] at e2 hm2
 obtain ⟨hc1, hc2⟩ := hm1
 obtain ⟨hc3, hc4⟩ := hm2
 have HA := hide (And.intro ha (And.intro hb (And.intro hn1 hn2)))
 have HV := hide (And.intro e1 e2)
 rw [e1, e2]
 clear ha hb e1 e2 hn1 hn2
 by_cases hlen : n1 = n2
 ·
  subst hlen
  go_enter Tryz.func68, Tryz.ntmps68
  go_wp2_with fail
  go_loopw [5] (fun i wr => ∃ j : Nat, i = .int .i64 (j : Int) ∧ j ≤ n1 ∧ Hid (Below w.heap.size w wr ∧ ∀ q x y, q < j → xs[q]? = some x → ys[q]? = some y → eqFd x y = true)) (fun i _ => n1 - (intOf i).toNat)
  case atStart => exact ⟨0, rfl, Nat.zero_le _, hide ⟨Below.refl _ _, fun q _ _ hq => absurd hq (Nat.not_lt_zero _)⟩⟩
  case round =>
   obtain ⟨j, rfl, hj, HB⟩ := hrel
   by_cases hlt : j < n1
   ·
    obtain ⟨ha, hb, hn1, hn2⟩ := unhide HA
    obtain ⟨bw, hall⟩ := unhide HB
    obtain ⟨x, hx⟩ : ∃ x, xs[j]? = some x := ⟨xs[j]'(by omega), List.getElem?_eq_getElem _⟩
    obtain ⟨y, hy⟩ : ∃ y, ys[j]? = some y := ⟨ys[j]'(by omega), List.getElem?_eq_getElem _⟩
    obtain ⟨b1, q1, cs1, ev1, hb1, _, hl1, hp1, hc1'⟩ := (ha.later pf_ok bw).elem hx
    obtain ⟨b2, q2, cs2, ev2, hb2, _, hl2, hp2, hc2'⟩ := (hb.later pf_ok bw).elem hy
    have hp1 : cs1 = [str x.name, str x.type] := hp1
    have hp2 : cs2 = [str y.name, str y.type] := hp2
    subst hp1
    subst hp2
    rw [(unhide HV).1, hn1] at ev1
    rw [(unhide HV).2, hn2] at ev2
    simp only [Value.slice.injEq] at ev1 ev2
    obtain ⟨rfl, -, -⟩ := ev1
    obtain ⟨rfl, -, -⟩ := ev2
    have x_0 : wr.cell? ⟨b1, j * 2, none⟩ = some (str x.name) := hc1' 0 _ rfl
    have y_0 : wr.cell? ⟨b2, j * 2, none⟩ = some (str y.name) := hc2' 0 _ rfl
    have x_1 : wr.cell? ⟨b1, j * 2 + 1, none⟩ = some (str x.type) := hc1' 1 _ rfl
    have y_1 : wr.cell? ⟨b2, j * 2 + 1, none⟩ = some (str y.type) := hc2' 1 _ rfl
    clear ha hb hc1' hc2' hl1 hl2 hn1 hn2 HA HV HB
    by_cases e0 : x.name = y.name
    ·
     have g0 : (x.name == y.name) = true := by simpa using e0
     by_cases e1 : x.type = y.type
     ·
      have g1 : (x.type == y.type) = true := by simpa using e1
      have HF := hide (And.intro hx (And.intro hy (And.intro hall (And.intro bw (show eqFd x y = true by unfold eqFd; simp [e0, e1])))))
      clear hx hy hall bw e0 e1
      go_wp2_with fail
      go_region
      all_goals
       go_wp2_with fail
       go_roundw
       case rel =>
        obtain ⟨hx, hy, hall, bw, hr⟩ := unhide HF
        refine ⟨j + 1, by go_num, by omega, hide ⟨bw.drew, fun q x' y' hq hx' hy' => ?_⟩⟩
        by_cases e : q = j
        ·
         subst e
         rw [hx] at hx'
         rw [hy] at hy'
         cases hx'
         cases hy'
         exact hr
        · exact hall q x' y' (by omega) hx' hy'
       case measure => simp [intOf]; omega
     ·
      have g1 : (x.type == y.type) = false := by simpa using e1
      have HF := hide (And.intro hx (And.intro hy (And.intro hall (And.intro bw (show eqFd x y = false by unfold eqFd; simp [e0, e1])))))
      clear hx hy hall bw e0 e1
      go_wp2_with fail
      go_region
      all_goals
       go_wp2_with fail
       go_ret
       obtain ⟨hx, hy, hall, bw, hr⟩ := unhide HF
       exact ⟨by rw [eqL_false hx hy hr]; rfl, bw.drew⟩
    ·
     have g0 : (x.name == y.name) = false := by simpa using e0
     have HF := hide (And.intro hx (And.intro hy (And.intro hall (And.intro bw (show eqFd x y = false by unfold eqFd; simp [e0])))))
     clear hx hy hall bw e0
     go_wp2_with fail
     go_region
     all_goals
      go_wp2_with fail
      go_ret
      obtain ⟨hx, hy, hall, bw, hr⟩ := unhide HF
      exact ⟨by rw [eqL_false hx hy hr]; rfl, bw.drew⟩
   ·
    obtain ⟨bw, hall⟩ := unhide HB
    have HF := hide (And.intro bw hall)
    clear bw hall HB
    go_wp2_with fail
    go_ret
    obtain ⟨bw, hall⟩ := unhide HF
    obtain ⟨_, _, hn1, hn2⟩ := unhide HA
    exact ⟨by rw [eqL_true (by omega) (fun q x' y' hx' hy' => hall q x' y' (by have := (List.getElem?_eq_some_iff.1 hx').1; omega) hx' hy')]; rfl, bw⟩
 ·
  have hne : ((n1 : Int) != (n2 : Int)) = true := by simp; omega
  go_enter Tryz.func68, Tryz.ntmps68
  go_wp2_with fail
  go_ret
  obtain ⟨_, _, hn1, hn2⟩ := unhide HA
  exact ⟨by rw [eqL_len (by omega)]; rfl, Below.refl _ _⟩
end Go.Proofs.YtdjehbdpcdikkaaGreatDoor

namespace Go.Proofs.YtdjehbdpcdikkaaGreatDoor
open Go.RowKit Go.Maps


set_option maxRecDepth 100000 in
set_option maxHeartbeats 8000000 in
theorem requal_s {S : Nat → Prop} {w : World} {va vb : Value} {xs ys : List Txt} (ha : LsAt PSt 1 S w va xs) (hb : LsAt PSt 1 S w vb ys) :
  Calls Tryz.prog 69 #[va, vb] w fun en w' => en = .returned (.bool (eqL eqTx xs ys)) ∧ Below w.heap.size w w' := by
 obtain ⟨a1, p1, e1⟩ := ha.sl
 obtain ⟨a2, p2, e2⟩ := hb.sl
 have hm1 : xs.length ≤ p1 ∧ p1 ≤ maxLen := by
  obtain ⟨_, _, _, e, h1, h2, _⟩ := ha
  rw [e] at e1
  cases e1
  exact ⟨h1, h2⟩
 have hm2 : ys.length ≤ p2 ∧ p2 ≤ maxLen := by
  obtain ⟨_, _, _, e, h1, h2, _⟩ := hb
  rw [e] at e2
  cases e2
  exact ⟨h1, h2⟩
 unfold maxLen at hm1 hm2
 obtain ⟨n1, hn1⟩ : ∃ n, xs.length = n := ⟨_, rfl⟩
 obtain ⟨n2, hn2⟩ : ∃ n, ys.length = n := ⟨_, rfl⟩
 rw [hn1] at e1 hm1
 rw [hn2] at e2 hm2
 obtain ⟨hc1, hc2⟩ := hm1
 obtain ⟨hc3, hc4⟩ := hm2
 have HA := hide (And.intro ha (And.intro hb (And.intro hn1 hn2)))
 have HV := hide (And.intro e1 e2)
 rw [e1, e2]
 clear ha hb e1 e2 hn1 hn2
 by_cases hlen : n1 = n2
 ·
  subst hlen
  go_enter Tryz.func69, Tryz.ntmps69
  go_wp2_with fail
  go_loopw [5] (fun i wr => ∃ j : Nat, i = .int .i64 (j : Int) ∧ j ≤ n1 ∧ Hid (Below w.heap.size w wr ∧ ∀ q x y, q < j → xs[q]? = some x → ys[q]? = some y → eqTx x y = true)) (fun i _ => n1 - (intOf i).toNat)
  case atStart => exact ⟨0, rfl, Nat.zero_le _, hide ⟨Below.refl _ _, fun q _ _ hq => absurd hq (Nat.not_lt_zero _)⟩⟩
  case round =>
   obtain ⟨j, rfl, hj, HB⟩ := hrel
   by_cases hlt : j < n1
   ·
    obtain ⟨ha, hb, hn1, hn2⟩ := unhide HA
    obtain ⟨bw, hall⟩ := unhide HB
    obtain ⟨x, hx⟩ : ∃ x, xs[j]? = some x := ⟨xs[j]'(by omega), List.getElem?_eq_getElem _⟩
    obtain ⟨y, hy⟩ : ∃ y, ys[j]? = some y := ⟨ys[j]'(by omega), List.getElem?_eq_getElem _⟩
    obtain ⟨b1, q1, cs1, ev1, hb1, _, hl1, hp1, hc1'⟩ := (ha.later pst_ok bw).elem hx
    obtain ⟨b2, q2, cs2, ev2, hb2, _, hl2, hp2, hc2'⟩ := (hb.later pst_ok bw).elem hy
    have hp1 : cs1 = [str x] := hp1
    have hp2 : cs2 = [str y] := hp2
    subst hp1
    subst hp2
    rw [(unhide HV).1, hn1] at ev1
    rw [(unhide HV).2, hn2] at ev2
    simp only [Value.slice.injEq] at ev1 ev2
    obtain ⟨rfl, -, -⟩ := ev1
    obtain ⟨rfl, -, -⟩ := ev2
    simp only [Nat.mul_one] at hc1' hc2'
    have x_0 : wr.cell? ⟨b1, j, none⟩ = some (str x) := hc1' 0 _ rfl
    have y_0 : wr.cell? ⟨b2, j, none⟩ = some (str y) := hc2' 0 _ rfl
    clear ha hb hc1' hc2' hl1 hl2 hn1 hn2 HA HV HB
    by_cases e0 : x = y
    ·
     have g0 : (x == y) = true := by simpa using e0
     have HF := hide (And.intro hx (And.intro hy (And.intro hall (And.intro bw (show eqTx x y = true by unfold eqTx; simp [e0])))))
     clear hx hy hall bw e0
     go_wp2_with fail
     go_region
     all_goals
      go_wp2_with fail
      go_roundw
      case rel =>
       obtain ⟨hx, hy, hall, bw, hr⟩ := unhide HF
       refine ⟨j + 1, by go_num, by omega, hide ⟨bw.drew, fun q x' y' hq hx' hy' => ?_⟩⟩
       by_cases e : q = j
       ·
        subst e
        rw [hx] at hx'
        rw [hy] at hy'
        cases hx'
        cases hy'
        exact hr
       · exact hall q x' y' (by omega) hx' hy'
      case measure => simp [intOf]; omega
    ·
     have g0 : (x == y) = false := by simpa using e0
     have HF := hide (And.intro hx (And.intro hy (And.intro hall (And.intro bw (show eqTx x y = false by unfold eqTx; simp [e0])))))
     clear hx hy hall bw e0
     go_wp2_with fail
     go_region
     all_goals
      go_wp2_with fail
      go_ret
      obtain ⟨hx, hy, hall, bw, hr⟩ := unhide HF
      exact ⟨by rw [eqL_false hx hy hr]; rfl, bw.drew⟩
   ·
    obtain ⟨bw, hall⟩ := unhide HB
    have HF := hide (And.intro bw hall)
    clear bw hall HB
    go_wp2_with fail
    go_ret
    obtain ⟨bw, hall⟩ := unhide HF
    obtain ⟨_, _, hn1, hn2⟩ := unhide HA
    exact ⟨by rw [eqL_true (by omega) (fun q x' y' hx' hy' => hall q x' y' (by have := (List.getElem?_eq_some_iff.1 hx').1; omega) hx' hy')]; rfl, bw⟩
 ·
  have hne : ((n1 : Int) != (n2 : Int)) = true := by simp; omega
  go_enter Tryz.func69, Tryz.ntmps69
  go_wp2_with fail
  go_ret
  obtain ⟨_, _, hn1, hn2⟩ := unhide HA
  exact ⟨by rw [eqL_len (by omega)]; rfl, Below.refl _ _⟩
end Go.Proofs.YtdjehbdpcdikkaaGreatDoor

namespace Go.Proofs.YtdjehbdpcdikkaaGreatDoor
open Go.RowKit Go.Maps

set_option maxRecDepth 100000 in
set_option maxHeartbeats 4000000 in
theorem place_off (a b : Int) (w : World) : Calls Tryz.prog 36 #[.int .i64 a, .int .i64 b, .bool false] w fun en w' => en = .returned (.bool true) ∧ Below w.heap.size w w' := by
 go_enter Tryz.func36, Tryz.ntmps36
 go_wp2_with fail
 go_ret
 exact ⟨rfl, Below.refl _ _⟩
attribute [local go_sem ↓] loadAt_qe storeAt_qe
set_option maxRecDepth 100000 in
set_option maxHeartbeats 8000000 in
theorem rexprs_of {S : Nat → Prop} {w : World} {va vb : Value} {xs ys : List Ex} (ha : LsAt PE 5 S w va xs) (hb : LsAt PE 5 S w vb ys)
  (hf : ∀ (j : Nat) (x y : Ex), xs[j]? = some x → ys[j]? = some y → ∀ w' c0 c1 c2 c3 c4 d0 d1 d2 d3 d4, Below w.heap.size w w' → ExS S w' [c0, c1, c2, c3, c4] x → ExS S w' [d0, d1, d2, d3, d4] y → Calls Tryz.prog 71 #[.agg #[c0, c1, c2, c3, c4], .agg #[d0, d1, d2, d3, d4], .bool false] w' fun en w2 => en = .returned (.bool (eqE x y)) ∧ Below w'.heap.size w' w2) :
  Calls Tryz.prog 96 #[va, vb, .bool false] w fun en w' => en = .returned (.bool (eqL eqE xs ys)) ∧ Below w.heap.size w w' := by
 obtain ⟨a1, p1, e1⟩ := ha.sl
 obtain ⟨a2, p2, e2⟩ := hb.sl
 have hm1 : xs.length ≤ p1 ∧ p1 ≤ maxLen := by
  obtain ⟨_, _, _, e, h1, h2, _⟩ := ha
  rw [e] at e1
  cases e1
  exact ⟨h1, h2⟩
 have hm2 : ys.length ≤ p2 ∧ p2 ≤ maxLen := by
  obtain ⟨_, _, _, e, h1, h2, _⟩ := hb
  rw [e] at e2
  cases e2
  exact ⟨h1, h2⟩
 unfold maxLen at hm1 hm2
 obtain ⟨n1, hn1⟩ : ∃ n, xs.length = n := ⟨_, rfl⟩
 obtain ⟨n2, hn2⟩ : ∃ n, ys.length = n := ⟨_, rfl⟩
 rw [hn1] at e1 hm1
 rw [hn2] at e2 hm2
 obtain ⟨hc1, hc2⟩ := hm1
 obtain ⟨hc3, hc4⟩ := hm2
 have HA := hide (And.intro ha (And.intro hb (And.intro hf (And.intro hn1 hn2))))
 have HV := hide (And.intro e1 e2)
 rw [e1, e2]
 clear ha hb hf e1 e2 hn1 hn2
 by_cases hlen : n1 = n2
 ·
  subst hlen
  go_enter Tryz.func96, Tryz.ntmps96
  go_wp2_with fail
  go_loopw [7] (fun i wr => ∃ j : Nat, i = .int .i64 (j : Int) ∧ j ≤ n1 ∧ Hid (Below w.heap.size w wr ∧ ∀ q x y, q < j → xs[q]? = some x → ys[q]? = some y → eqE x y = true)) (fun i _ => n1 - (intOf i).toNat)
  case atStart => exact ⟨0, rfl, Nat.zero_le _, hide ⟨Below.refl _ _, fun q _ _ hq => absurd hq (Nat.not_lt_zero _)⟩⟩
  case round =>
   obtain ⟨j, rfl, hj, HB⟩ := hrel
   by_cases hlt : j < n1
   ·
    obtain ⟨ha, hb, hf, hn1, hn2⟩ := unhide HA
    obtain ⟨bw, hall⟩ := unhide HB
    obtain ⟨x, hx⟩ : ∃ x, xs[j]? = some x := ⟨xs[j]'(by omega), List.getElem?_eq_getElem _⟩
    obtain ⟨y, hy⟩ : ∃ y, ys[j]? = some y := ⟨ys[j]'(by omega), List.getElem?_eq_getElem _⟩
    obtain ⟨b1, q1, cs1, ev1, hb1, _, hl1, hp1, hc1'⟩ := (ha.later exS_ok bw).elem hx
    obtain ⟨b2, q2, cs2, ev2, hb2, _, hl2, hp2, hc2'⟩ := (hb.later exS_ok bw).elem hy
    obtain ⟨c0, c1, c2, c3, c4, rfl⟩ := len_qe hl1
    obtain ⟨d0, d1, d2, d3, d4, rfl⟩ := len_qe hl2
    rw [(unhide HV).1, hn1] at ev1
    rw [(unhide HV).2, hn2] at ev2
    simp only [Value.slice.injEq] at ev1 ev2
    obtain ⟨rfl, -, -⟩ := ev1
    obtain ⟨rfl, -, -⟩ := ev2
    have bd : Below wr.heap.size wr wr.drew := (Below.refl _ wr).drew
    have hcl := hf j x y hx hy wr.drew c0 c1 c2 c3 c4 d0 d1 d2 d3 d4 bw.drew (exS_ok.same _ _ _ _ _ hp1 bd.size (fun b _ hl => bd.block b hl)) (exS_ok.same _ _ _ _ _ hp2 bd.size (fun b _ hl => bd.block b hl))
    obtain ⟨r, hr⟩ : ∃ r, r = eqE x y := ⟨_, rfl⟩
    rw [← hr] at hcl
    have HC : Hid (∀ w', Below wr.heap.size wr w' → (∀ q c, ([c0, c1, c2, c3, c4] : List Value)[q]? = some c → w'.cell? ⟨b1, j * 5 + q, none⟩ = some c) ∧ (∀ q c, ([d0, d1, d2, d3, d4] : List Value)[q]? = some c → w'.cell? ⟨b2, j * 5 + q, none⟩ = some c)) := fun w' bb => ⟨fun q c hq => by rw [bb.cell (p := ⟨b1, _, none⟩) hb1]; exact hc1' q c hq, fun q c hq => by rw [bb.cell (p := ⟨b2, _, none⟩) hb2]; exact hc2' q c hq⟩
    have HF := hide (And.intro hx (And.intro hy (And.intro hall (And.intro bw hr))))
    clear ha hb hf bw hall hx hy hc1' hc2' hp1 hp2 hl1 hl2 hn1 hn2 HA HV hb1 hb2 hr HB bd
    go_wp2_with fail
    refine region_mixN (md := [(0, true), (1, true), (2, true), (3, true), (4, true), (5, true), (6, true), (7, true), (8, true), (9, false), (10, true)]) (fun w' => (∀ q c, ([c0, c1, c2, c3, c4] : List Value)[q]? = some c → w'.cell? ⟨b1, j * 5 + q, none⟩ = some c) ∧ (∀ q c, ([d0, d1, d2, d3, d4] : List Value)[q]? = some c → w'.cell? ⟨b2, j * 5 + q, none⟩ = some c)) mixedO (by kernel_rfl) rfl (by kernel_rfl) (fun PP hPP => ?_)
    iterate 3 (refine wpMix_take (v := ?_) rfl (by kernel_rfl) (fun w' hw => ?_) ?_; rotate_left; · (go_simp; try with_reducible rfl))
    refine wpMix_take (v := ?_) rfl (by kernel_rfl) (fun w' hw => ?_) ?_
    rotate_left
    · (have L := qe_load (w := w') (fun q c hq => hw.1 q c hq); go_simp; try with_reducible rfl)
    iterate 3 (refine wpMix_take (v := ?_) rfl (by kernel_rfl) (fun w' hw => ?_) ?_; rotate_left; · (go_simp; try with_reducible rfl))
    refine wpMix_take (v := ?_) rfl (by kernel_rfl) (fun w' hw => ?_) ?_
    rotate_left
    · (have L := qe_load (w := w') (fun q c hq => hw.2 q c hq); go_simp; try with_reducible rfl)
    refine wpMix_take (v := ?_) rfl (by kernel_rfl) (fun w' hw => ?_) ?_
    rotate_left
    · (go_simp; try with_reducible rfl)
    refine wpMix_force rfl (unhide HC _ ((Below.refl _ wr).drew)) (fun K hK => ?_)
    go_simp
    refine hcl.mono ?_
    clear hcl
    rintro en w4 ⟨rfl, b4⟩
    have B4 := hide (((Below.refl _ wr).drew).trans b4)
    clear b4
    cases r with
    | true =>
     go_wp2_with fail
     refine wpMix_take (v := ?_) rfl (by kernel_rfl) (fun w' hw => ?_) ?_
     rotate_left
     · (go_simp; try with_reducible rfl)
     refine wpMix_nil (unhide HC _ (unhide B4)) (hPP _ _ ?_)
     clear hPP PP
     simp [Act.put, Array.setIfInBounds]
     go_wp2_with fail
     go_roundw
     case rel =>
      obtain ⟨hx, hy, hall, bw, hr⟩ := unhide HF
      refine ⟨j + 1, by go_num, by omega, hide ⟨bw.trans ((unhide B4).mono bw.size), fun q x' y' hq hx' hy' => ?_⟩⟩
      by_cases e : q = j
      ·
       subst e
       rw [hx] at hx'
       rw [hy] at hy'
       cases hx'
       cases hy'
       exact hr.symm
      · exact hall q x' y' (by omega) hx' hy'
     case measure => simp [intOf]; omega
    | false =>
     go_wp2_with fail
     refine wpMix_take (v := ?_) rfl (by kernel_rfl) (fun w' hw => ?_) ?_
     rotate_left
     · (go_simp; try with_reducible rfl)
     refine wpMix_nil (unhide HC _ (unhide B4)) (hPP _ _ ?_)
     clear hPP PP
     simp [Act.put, Array.setIfInBounds]
     go_wp2_with fail
     go_ret
     obtain ⟨hx, hy, hall, bw, hr⟩ := unhide HF
     exact ⟨by rw [eqL_false hx hy hr.symm]; rfl, bw.trans ((unhide B4).mono bw.size)⟩
   ·
    obtain ⟨bw, hall⟩ := unhide HB
    have HF := hide (And.intro bw hall)
    clear bw hall HB
    go_wp2_with fail
    go_ret
    obtain ⟨bw, hall⟩ := unhide HF
    obtain ⟨_, _, _, hn1, hn2⟩ := unhide HA
    exact ⟨by rw [eqL_true (by omega) (fun q x' y' hx' hy' => hall q x' y' (by have := (List.getElem?_eq_some_iff.1 hx').1; omega) hx' hy')]; rfl, bw⟩
 ·
  have hne : ((n1 : Int) != (n2 : Int)) = true := by simp; omega
  go_enter Tryz.func96, Tryz.ntmps96
  go_wp2_with fail
  go_ret
  obtain ⟨_, _, _, hn1, hn2⟩ := unhide HA
  exact ⟨by rw [eqL_len (by omega)]; rfl, Below.refl _ _⟩
theorem and_t (a b c d : Bool) : (a && b && c && true && d) = (a && b && c && d) := by cases a <;> cases b <;> cases c <;> cases d <;> rfl
/-- Two expressions. -/
theorem rsameE_any (x : Ex) : ∀ (y : Ex) (S : Nat → Prop) (w : World) (c0 c1 c2 c3 c4 d0 d1 d2 d3 d4 : Value), ExS S w [c0, c1, c2, c3, c4] x → ExS S w [d0, d1, d2, d3, d4] y →
  Calls Tryz.prog 71 #[.agg #[c0, c1, c2, c3, c4], .agg #[d0, d1, d2, d3, d4], .bool false] w fun en w' => en = .returned (.bool (eqE x y)) ∧ Below w.heap.size w w' :=
 match x with
 | .mk k n s ks a => fun y S w c0 c1 c2 c3 c4 d0 d1 d2 d3 d4 hx hy => by
  obtain ⟨v, ex, ⟨xa, xc, rfl⟩, hkx⟩ := hx.cells
  obtain ⟨u, ey, ⟨ya, yc, rfl⟩, hky⟩ := hy.cells
  simp only [List.cons.injEq, and_true] at ex ey
  obtain ⟨rfl, rfl, rfl, rfl, rfl⟩ := ex
  obtain ⟨rfl, rfl, rfl, rfl, rfl⟩ := ey
  rw [eqE_eq, ← and_t]
  refine rSameExpr_ch rfl rfl rfl (fun w' _ => place_off _ _ w') (fun w' hb => ?_)
  refine (rexprs_of (hkx.later exS_ok hb) (hky.later exS_ok hb) (fun j x1 y1 hx1 hy1 w1 e0 e1 e2 e3 e4 f0 f1 f2 f3 f4 _ h1 h2 => ?_)).mono (fun _ _ h => h)
  have hm : x1 ∈ ks := List.mem_of_getElem? hx1
  exact rsameE_any x1 y1 S w1 e0 e1 e2 e3 e4 f0 f1 f2 f3 f4 h1 h2
termination_by SizeOf.sizeOf x
decreasing_by
 have := List.sizeOf_lt_of_mem hm
 simp only [Ex.mk.sizeOf_spec]
 omega
theorem rsameA_any {x y : Atm} {S : Nat → Prop} {w : World} {xa ya : Option Addr} {xn xc yn yc : Nat} (hx : LsAt PE 5 S w (.slice xa xn xc) x.args) (hy : LsAt PE 5 S w (.slice ya yn yc) y.args) :
  Calls Tryz.prog 70 #[.agg #[str x.rel, .slice xa xn xc, .int .i64 x.at_], .agg #[str y.rel, .slice ya yn yc, .int .i64 y.at_], .bool false] w fun en w' => en = .returned (.bool (eqA x y)) ∧ Below w.heap.size w w' := by
 have e : eqA x y = (decide (x.rel = y.rel) && true && eqL eqE x.args y.args) := by unfold eqA; rw [Bool.and_true]
 rw [e]
 exact rSameAtom_ch rfl (fun w' _ => place_off _ _ w') (fun w' hb => rexprs_of (hx.later exS_ok hb) (hy.later exS_ok hb) (fun j x1 y1 _ _ w1 e0 e1 e2 e3 e4 f0 f1 f2 f3 f4 _ h1 h2 => rsameE_any x1 y1 S w1 e0 e1 e2 e3 e4 f0 f1 f2 f3 f4 h1 h2))
end Go.Proofs.YtdjehbdpcdikkaaGreatDoor
