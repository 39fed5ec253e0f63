/- syn: SameAtom, as a chain. slices.Equal at vestry/vestryref09.fields. slices.Equal at vestry/vestryref09.texts. The document's SameExprs and SameExpr, places aside. syn: the laws' own probe answers true. Walk of the document's Same. Walks of the document's fault and gap. Walk of the document's number. Walk of the document's text between quotes. Walk of the document's sign. Walk of the document's Tokens. Walk of the document's Tokens: its rounds. The document's Tokens, of any text; regions. -/
import Derived.Test.YtccehgfecaamoaaGreatDoorQb21
import Derived.Test.YtccehgfecaamoaaGreatDoorQb26
import Derived.Test.YtccehgfecaamoaaGreatDoorQb30
import Derived.Test.YtccehgfecaamoaaGreatDoorQb34
import Derived.Test.YtccehgfecaamoaaGreatDoorQb29
import Derived.Test.YtccehgfecaamoaaGreatDoorQb20
import Derived.Test.YtccehgfecaamoaaGreatDoorQb08
set_option maxRecDepth 100000
set_option maxHeartbeats 32000000
namespace Go.Proofs.YtccehgfecaamoaaGreatDoor
section
open Go.RowKit Go.Maps
theorem Qnj {w : World} {xat : Int} {xt : Txt} {xa : Option Addr} {xn xc : Nat} {yat : Int} {yt : Txt} {ya : Option Addr} {yn yc : Nat} {s0 s1 s2 : Bool} (h0 : s0 = decide (xt = yt)) (h1 : ∀ w', Below w.heap.size w w' → Calls Tryz.prog 20 #[.int .i64 xat, .int .i64 yat, .bool false] w' fun en w2 => en = .returned (.bool s1) ∧ Below w'.heap.size w' w2) (h2 : ∀ w', Below w.heap.size w w' → Calls Tryz.prog 79 #[.slice xa xn xc, .slice ya yn yc, .bool false] w' fun en w2 => en = .returned (.bool s2) ∧ Below w'.heap.size w' w2) :
  Calls Tryz.prog 48 #[.agg #[str xt, .slice xa xn xc, .int .i64 xat], .agg #[str yt, .slice ya yn yc, .int .i64 yat], .bool false] w fun en w' => en = .returned (.bool (s0 && s1 && s2)) ∧ Below w.heap.size w w' := by
 have B0 : Hid (Below w.heap.size w ((w.alloc (.cells #[str xt, .slice xa xn xc, .int .i64 xat] 61)).alloc (.cells #[str yt, .slice ya yn yc, .int .i64 yat] 61)) ∧ ((w.alloc (.cells #[str xt, .slice xa xn xc, .int .i64 xat] 61)).alloc (.cells #[str yt, .slice ya yn yc, .int .i64 yat] 61)).heap[w.heap.size]? = some (.cells #[str xt, .slice xa xn xc, .int .i64 xat] 61 (0, 0)) ∧ ((w.alloc (.cells #[str xt, .slice xa xn xc, .int .i64 xat] 61)).alloc (.cells #[str yt, .slice ya yn yc, .int .i64 yat] 61)).heap[w.heap.size + 1]? = some (.cells #[str yt, .slice ya yn yc, .int .i64 yat] 61 (0, 0))) := by
  refine ⟨((Below.refl _ w).alloc (Nat.le_refl _) _).alloc (by simp) _, ?_, ?_⟩
  · rw [Below.heap_alloc _ _ _ (by simp)]; exact heap_alloc_new w _
  have := heap_alloc_new (w.alloc (.cells #[str xt, .slice xa xn xc, .int .i64 xat] 61)) (.cells #[str yt, .slice ya yn yc, .int .i64 yat] 61)
  rw [show (w.alloc (.cells #[str xt, .slice xa xn xc, .int .i64 xat] 61)).heap.size = w.heap.size + 1 by simp] at this
  exact this
 have H0 := hide h0
 have H1 := hide h1
 have H2 := hide h2
 clear h0 h1 h2
 cases s0
 ·
  have g0 : (xt == yt) = false := by simpa using Qa H0
  go_enter Tryz.func48, Tryz.ntmps48
  go_wp2_with fail
  go_ret
  exact ⟨rfl, (Qa B0).1⟩
 have g0 : (xt == yt) = true := by simpa using Qa H0
 go_enter Tryz.func48, Tryz.ntmps48
 have hcl := Qa H1 _ (Qa B0).1
 go_wp2_with fail
 refine hcl.mono ?_
 clear hcl
 rintro en w1 ⟨rfl, b1⟩
 obtain ⟨bb, na, nb⟩ := Qa B0
 have na1 := (b1.block _ (Qag na)).trans na
 have nb1 := (b1.block _ (Qag nb)).trans nb
 have BB1 := hide (Ya (bb.trans (b1.mono bb.size)) (Ya na1 nb1))
 obtain ⟨x_0, x_1, x_2, xf⟩ := cl3 na1
 obtain ⟨y_0, y_1, y_2, yf⟩ := cl3 nb1
 clear bb na nb b1 na1 nb1
 cases s1
 ·
  go_wp2_with fail
  go_ret
  exact ⟨rfl, (Qa BB1).1⟩
 have hcl := Qa H2 _ (Qa BB1).1
 go_wp2_with fail
 refine hcl.mono ?_
 clear hcl
 rintro en w2 ⟨rfl, b2⟩
 obtain ⟨bb, na, nb⟩ := Qa BB1
 have na2 := (b2.block _ (Qag na)).trans na
 have nb2 := (b2.block _ (Qag nb)).trans nb
 have BB2 := hide (Ya (bb.trans (b2.mono bb.size)) (Ya na2 nb2))
 obtain ⟨x_0, x_1, x_2, xf⟩ := cl3 na2
 obtain ⟨y_0, y_1, y_2, yf⟩ := cl3 nb2
 clear bb na nb b2 na2 nb2
 cases s2
 ·
  go_wp2_with fail
  go_ret
  exact ⟨rfl, (Qa BB2).1⟩
 go_wp2_with fail
 go_ret
 exact ⟨rfl, (Qa BB2).1⟩
end
section
open Go.RowKit Go.Maps
theorem Qhr {S : Nat → Prop} {w : World} {va vb : Value} {xs ys : List Fld} (ha : LsAt PF 2 S w va xs) (hb : LsAt PF 2 S w vb ys) :
  Calls Tryz.prog 46 #[va, vb] w fun en w' => en = .returned (.bool (eqL eqFd xs ys)) ∧ Below w.heap.size w w' := by
 obtain ⟨a1, p1, e1⟩ := ha.sl
 obtain ⟨a2, p2, e2⟩ := hb.sl
 have hm1 : xs.length ≤ p1 ∧ p1 ≤ maxLen := by
  obtain ⟨_, _, _, e, h1, h2, _⟩ := ha
  rw [e] at e1
  cases e1
  exact ⟨h1, h2⟩
 have hm2 : ys.length ≤ p2 ∧ p2 ≤ maxLen := by
  obtain ⟨_, _, _, e, h1, h2, _⟩ := hb
  rw [e] at e2
  cases e2
  exact ⟨h1, h2⟩
 unfold maxLen at hm1 hm2
 obtain ⟨n1, hn1⟩ : ∃ n, xs.length = n := ⟨_, rfl⟩
 obtain ⟨n2, hn2⟩ : ∃ n, ys.length = n := ⟨_, rfl⟩
 rw [hn1] at e1 hm1
 rw [hn2] at e2 hm2
 obtain ⟨hc1, hc2⟩ := hm1
 obtain ⟨hc3, hc4⟩ := hm2
 have HA := hide (Ya ha (Ya hb (Ya hn1 hn2)))
 have HV := hide (Ya e1 e2)
 rw [e1, e2]
 clear ha hb e1 e2 hn1 hn2
 by_cases hlen : n1 = n2
 ·
  subst hlen
  go_enter Tryz.func46, Tryz.ntmps46
  go_wp2_with fail
  go_loopw [5] (fun i wr => ∃ j : Nat, i = .int .i64 (j : Int) ∧ j ≤ n1 ∧ Hid (Below w.heap.size w wr ∧ ∀ q x y, q < j → xs[q]? = some x → ys[q]? = some y → eqFd x y = true)) (fun i _ => n1 - (intOf i).toNat)
  case atStart => exact ⟨0, rfl, Nat.zero_le _, hide ⟨Below.refl _ _, fun q _ _ hq => absurd hq (Nat.not_lt_zero _)⟩⟩
  obtain ⟨j, rfl, hj, HB⟩ := hrel
  by_cases hlt : j < n1
  ·
   obtain ⟨ha, hb, hn1, hn2⟩ := Qa HA
   obtain ⟨bw, hall⟩ := Qa HB
   obtain ⟨x, hx⟩ : ∃ x, xs[j]? = some x := ⟨xs[j]'(by omega), List.getElem?_eq_getElem _⟩
   obtain ⟨y, hy⟩ : ∃ y, ys[j]? = some y := ⟨ys[j]'(by omega), List.getElem?_eq_getElem _⟩
   obtain ⟨b1, q1, cs1, ev1, hb1, _, hl1, hp1, hc1'⟩ := (ha.later Qbv bw).elem hx
   obtain ⟨b2, q2, cs2, ev2, hb2, _, hl2, hp2, hc2'⟩ := (hb.later Qbv bw).elem hy
   have hp1 : cs1 = [str x.name, str x.type] := hp1
   have hp2 : cs2 = [str y.name, str y.type] := hp2
   subst hp1
   subst hp2
   rw [(Qa HV).1, hn1] at ev1
   rw [(Qa HV).2, hn2] at ev2
   simp only [Value.slice.injEq] at ev1 ev2
   obtain ⟨rfl, -, -⟩ := ev1
   obtain ⟨rfl, -, -⟩ := ev2
   have x_0 : wr.cell? ⟨b1, j * 2, none⟩ = some (str x.name) := hc1' 0 _ rfl
   have y_0 : wr.cell? ⟨b2, j * 2, none⟩ = some (str y.name) := hc2' 0 _ rfl
   have x_1 : wr.cell? ⟨b1, j * 2 + 1, none⟩ = some (str x.type) := hc1' 1 _ rfl
   have y_1 : wr.cell? ⟨b2, j * 2 + 1, none⟩ = some (str y.type) := hc2' 1 _ rfl
   clear ha hb hc1' hc2' hl1 hl2 hn1 hn2 HA HV HB
   by_cases e0 : x.name = y.name
   ·
    have g0 : (x.name == y.name) = true := by simpa using e0
    by_cases e1 : x.type = y.type
    ·
     have g1 : (x.type == y.type) = true := by simpa using e1
     have HF := hide (Ya hx (Ya hy (Ya hall (Ya bw (show eqFd x y = true by unfold eqFd; simp [e0, e1])))))
     clear hx hy hall bw e0 e1
     go_wp2_with fail
     go_region
     all_goals
      go_wp2_with fail
      go_roundw
      case rel =>
       obtain ⟨hx, hy, hall, bw, hr⟩ := Qa HF
       refine ⟨j + 1, by go_num, by omega, hide ⟨bw.drew, fun q x' y' hq hx' hy' => ?_⟩⟩
       by_cases e : q = j
       ·
        subst e
        rw [hx] at hx'
        rw [hy] at hy'
        cases hx'
        cases hy'
        exact hr
       · exact hall q x' y' (by omega) hx' hy'
      case measure => simp [intOf]; omega
    have g1 : (x.type == y.type) = false := by simpa using e1
    have HF := hide (Ya hx (Ya hy (Ya hall (Ya bw (show eqFd x y = false by unfold eqFd; simp [e0, e1])))))
    clear hx hy hall bw e0 e1
    go_wp2_with fail
    go_region
    all_goals
     go_wp2_with fail
     go_ret
     obtain ⟨hx, hy, hall, bw, hr⟩ := Qa HF
     exact ⟨by rw [Qai hx hy hr]; rfl, bw.drew⟩
   have g0 : (x.name == y.name) = false := by simpa using e0
   have HF := hide (Ya hx (Ya hy (Ya hall (Ya bw (show eqFd x y = false by unfold eqFd; simp [e0])))))
   clear hx hy hall bw e0
   go_wp2_with fail
   go_region
   all_goals
    go_wp2_with fail
    go_ret
    obtain ⟨hx, hy, hall, bw, hr⟩ := Qa HF
    exact ⟨by rw [Qai hx hy hr]; rfl, bw.drew⟩
  obtain ⟨bw, hall⟩ := Qa HB
  have HF := hide (Ya bw hall)
  clear bw hall HB
  go_wp2_with fail
  go_ret
  obtain ⟨bw, hall⟩ := Qa HF
  obtain ⟨_, _, hn1, hn2⟩ := Qa HA
  exact ⟨by rw [Qbd (by omega) (fun q x' y' hx' hy' => hall q x' y' (by have := (List.getElem?_eq_some_iff.1 hx').1; omega) hx' hy')]; rfl, bw⟩
 have hne : ((n1 : Int) != (n2 : Int)) = true := by simp; omega
 go_enter Tryz.func46, Tryz.ntmps46
 go_wp2_with fail
 go_ret
 obtain ⟨_, _, hn1, hn2⟩ := Qa HA
 exact ⟨by rw [Qbo (by omega)]; rfl, Below.refl _ _⟩
end
section
open Go.RowKit Go.Maps
theorem Qly {S : Nat → Prop} {w : World} {va vb : Value} {xs ys : List Txt} (ha : LsAt PSt 1 S w va xs) (hb : LsAt PSt 1 S w vb ys) :
  Calls Tryz.prog 47 #[va, vb] w fun en w' => en = .returned (.bool (eqL eqTx xs ys)) ∧ Below w.heap.size w w' := by
 obtain ⟨a1, p1, e1⟩ := ha.sl
 obtain ⟨a2, p2, e2⟩ := hb.sl
 have hm1 : xs.length ≤ p1 ∧ p1 ≤ maxLen := by
  obtain ⟨_, _, _, e, h1, h2, _⟩ := ha
  rw [e] at e1
  cases e1
  exact ⟨h1, h2⟩
 have hm2 : ys.length ≤ p2 ∧ p2 ≤ maxLen := by
  obtain ⟨_, _, _, e, h1, h2, _⟩ := hb
  rw [e] at e2
  cases e2
  exact ⟨h1, h2⟩
 unfold maxLen at hm1 hm2
 obtain ⟨n1, hn1⟩ : ∃ n, xs.length = n := ⟨_, rfl⟩
 obtain ⟨n2, hn2⟩ : ∃ n, ys.length = n := ⟨_, rfl⟩
 rw [hn1] at e1 hm1
 rw [hn2] at e2 hm2
 obtain ⟨hc1, hc2⟩ := hm1
 obtain ⟨hc3, hc4⟩ := hm2
 have HA := hide (Ya ha (Ya hb (Ya hn1 hn2)))
 have HV := hide (Ya e1 e2)
 rw [e1, e2]
 clear ha hb e1 e2 hn1 hn2
 by_cases hlen : n1 = n2
 ·
  subst hlen
  go_enter Tryz.func47, Tryz.ntmps47
  go_wp2_with fail
  go_loopw [5] (fun i wr => ∃ j : Nat, i = .int .i64 (j : Int) ∧ j ≤ n1 ∧ Hid (Below w.heap.size w wr ∧ ∀ q x y, q < j → xs[q]? = some x → ys[q]? = some y → eqTx x y = true)) (fun i _ => n1 - (intOf i).toNat)
  case atStart => exact ⟨0, rfl, Nat.zero_le _, hide ⟨Below.refl _ _, fun q _ _ hq => absurd hq (Nat.not_lt_zero _)⟩⟩
  obtain ⟨j, rfl, hj, HB⟩ := hrel
  by_cases hlt : j < n1
  ·
   obtain ⟨ha, hb, hn1, hn2⟩ := Qa HA
   obtain ⟨bw, hall⟩ := Qa HB
   obtain ⟨x, hx⟩ : ∃ x, xs[j]? = some x := ⟨xs[j]'(by omega), List.getElem?_eq_getElem _⟩
   obtain ⟨y, hy⟩ : ∃ y, ys[j]? = some y := ⟨ys[j]'(by omega), List.getElem?_eq_getElem _⟩
   obtain ⟨b1, q1, cs1, ev1, hb1, _, hl1, hp1, hc1'⟩ := (ha.later Qbj bw).elem hx
   obtain ⟨b2, q2, cs2, ev2, hb2, _, hl2, hp2, hc2'⟩ := (hb.later Qbj bw).elem hy
   have hp1 : cs1 = [str x] := hp1
   have hp2 : cs2 = [str y] := hp2
   subst hp1
   subst hp2
   rw [(Qa HV).1, hn1] at ev1
   rw [(Qa HV).2, hn2] at ev2
   simp only [Value.slice.injEq] at ev1 ev2
   obtain ⟨rfl, -, -⟩ := ev1
   obtain ⟨rfl, -, -⟩ := ev2
   simp only [Nat.mul_one] at hc1' hc2'
   have x_0 : wr.cell? ⟨b1, j, none⟩ = some (str x) := hc1' 0 _ rfl
   have y_0 : wr.cell? ⟨b2, j, none⟩ = some (str y) := hc2' 0 _ rfl
   clear ha hb hc1' hc2' hl1 hl2 hn1 hn2 HA HV HB
   by_cases e0 : x = y
   ·
    have g0 : (x == y) = true := by simpa using e0
    have HF := hide (Ya hx (Ya hy (Ya hall (Ya bw (show eqTx x y = true by unfold eqTx; simp [e0])))))
    clear hx hy hall bw e0
    go_wp2_with fail
    go_region
    all_goals
     go_wp2_with fail
     go_roundw
     case rel =>
      obtain ⟨hx, hy, hall, bw, hr⟩ := Qa HF
      refine ⟨j + 1, by go_num, by omega, hide ⟨bw.drew, fun q x' y' hq hx' hy' => ?_⟩⟩
      by_cases e : q = j
      ·
       subst e
       rw [hx] at hx'
       rw [hy] at hy'
       cases hx'
       cases hy'
       exact hr
      · exact hall q x' y' (by omega) hx' hy'
     case measure => simp [intOf]; omega
   have g0 : (x == y) = false := by simpa using e0
   have HF := hide (Ya hx (Ya hy (Ya hall (Ya bw (show eqTx x y = false by unfold eqTx; simp [e0])))))
   clear hx hy hall bw e0
   go_wp2_with fail
   go_region
   all_goals
    go_wp2_with fail
    go_ret
    obtain ⟨hx, hy, hall, bw, hr⟩ := Qa HF
    exact ⟨by rw [Qai hx hy hr]; rfl, bw.drew⟩
  obtain ⟨bw, hall⟩ := Qa HB
  have HF := hide (Ya bw hall)
  clear bw hall HB
  go_wp2_with fail
  go_ret
  obtain ⟨bw, hall⟩ := Qa HF
  obtain ⟨_, _, hn1, hn2⟩ := Qa HA
  exact ⟨by rw [Qbd (by omega) (fun q x' y' hx' hy' => hall q x' y' (by have := (List.getElem?_eq_some_iff.1 hx').1; omega) hx' hy')]; rfl, bw⟩
 have hne : ((n1 : Int) != (n2 : Int)) = true := by simp; omega
 go_enter Tryz.func47, Tryz.ntmps47
 go_wp2_with fail
 go_ret
 obtain ⟨_, _, hn1, hn2⟩ := Qa HA
 exact ⟨by rw [Qbo (by omega)]; rfl, Below.refl _ _⟩
end
section
open Go.RowKit Go.Maps
theorem Qcd (a b : Int) (w : World) : Calls Tryz.prog 20 #[.int .i64 a, .int .i64 b, .bool false] w fun en w' => en = .returned (.bool true) ∧ Below w.heap.size w w' := by
 go_enter Tryz.func20, Tryz.ntmps20
 go_wp2_with fail
 go_ret
 exact ⟨rfl, Below.refl _ _⟩
attribute [local go_sem ↓] Qmy Qk
theorem Qnl {S : Nat → Prop} {w : World} {va vb : Value} {xs ys : List Ex} (ha : LsAt PE 5 S w va xs) (hb : LsAt PE 5 S w vb ys)
  (hf : ∀ (j : Nat) (x y : Ex), xs[j]? = some x → ys[j]? = some y → ∀ w' c0 c1 c2 c3 c4 d0 d1 d2 d3 d4, Below w.heap.size w w' → ExS S w' [c0, c1, c2, c3, c4] x → ExS S w' [d0, d1, d2, d3, d4] y → Calls Tryz.prog 49 #[.agg #[c0, c1, c2, c3, c4], .agg #[d0, d1, d2, d3, d4], .bool false] w' fun en w2 => en = .returned (.bool (eqE x y)) ∧ Below w'.heap.size w' w2) :
  Calls Tryz.prog 79 #[va, vb, .bool false] w fun en w' => en = .returned (.bool (eqL eqE xs ys)) ∧ Below w.heap.size w w' := by
 obtain ⟨a1, p1, e1⟩ := ha.sl
 obtain ⟨a2, p2, e2⟩ := hb.sl
 have hm1 : xs.length ≤ p1 ∧ p1 ≤ maxLen := by
  obtain ⟨_, _, _, e, h1, h2, _⟩ := ha
  rw [e] at e1
  cases e1
  exact ⟨h1, h2⟩
 have hm2 : ys.length ≤ p2 ∧ p2 ≤ maxLen := by
  obtain ⟨_, _, _, e, h1, h2, _⟩ := hb
  rw [e] at e2
  cases e2
  exact ⟨h1, h2⟩
 unfold maxLen at hm1 hm2
 obtain ⟨n1, hn1⟩ : ∃ n, xs.length = n := ⟨_, rfl⟩
 obtain ⟨n2, hn2⟩ : ∃ n, ys.length = n := ⟨_, rfl⟩
 rw [hn1] at e1 hm1
 rw [hn2] at e2 hm2
 obtain ⟨hc1, hc2⟩ := hm1
 obtain ⟨hc3, hc4⟩ := hm2
 have HA := hide (Ya ha (Ya hb (Ya hf (Ya hn1 hn2))))
 have HV := hide (Ya e1 e2)
 rw [e1, e2]
 clear ha hb hf e1 e2 hn1 hn2
 by_cases hlen : n1 = n2
 ·
  subst hlen
  go_enter Tryz.func79, Tryz.ntmps79
  go_wp2_with fail
  go_loopw [7] (fun i wr => ∃ j : Nat, i = .int .i64 (j : Int) ∧ j ≤ n1 ∧ Hid (Below w.heap.size w wr ∧ ∀ q x y, q < j → xs[q]? = some x → ys[q]? = some y → eqE x y = true)) (fun i _ => n1 - (intOf i).toNat)
  case atStart => exact ⟨0, rfl, Nat.zero_le _, hide ⟨Below.refl _ _, fun q _ _ hq => absurd hq (Nat.not_lt_zero _)⟩⟩
  obtain ⟨j, rfl, hj, HB⟩ := hrel
  by_cases hlt : j < n1
  ·
   obtain ⟨ha, hb, hf, hn1, hn2⟩ := Qa HA
   obtain ⟨bw, hall⟩ := Qa HB
   obtain ⟨x, hx⟩ : ∃ x, xs[j]? = some x := ⟨xs[j]'(by omega), List.getElem?_eq_getElem _⟩
   obtain ⟨y, hy⟩ : ∃ y, ys[j]? = some y := ⟨ys[j]'(by omega), List.getElem?_eq_getElem _⟩
   obtain ⟨b1, q1, cs1, ev1, hb1, _, hl1, hp1, hc1'⟩ := (ha.later Qae bw).elem hx
   obtain ⟨b2, q2, cs2, ev2, hb2, _, hl2, hp2, hc2'⟩ := (hb.later Qae bw).elem hy
   obtain ⟨c0, c1, c2, c3, c4, rfl⟩ := Qrb hl1
   obtain ⟨d0, d1, d2, d3, d4, rfl⟩ := Qrb hl2
   rw [(Qa HV).1, hn1] at ev1
   rw [(Qa HV).2, hn2] at ev2
   simp only [Value.slice.injEq] at ev1 ev2
   obtain ⟨rfl, -, -⟩ := ev1
   obtain ⟨rfl, -, -⟩ := ev2
   have bd : Below wr.heap.size wr wr.drew := (Below.refl _ wr).drew
   have hcl := hf j x y hx hy wr.drew c0 c1 c2 c3 c4 d0 d1 d2 d3 d4 bw.drew (Qae.same _ _ _ _ _ hp1 bd.size (fun b _ hl => bd.block b hl)) (Qae.same _ _ _ _ _ hp2 bd.size (fun b _ hl => bd.block b hl))
   obtain ⟨r, hr⟩ : ∃ r, r = eqE x y := ⟨_, rfl⟩
   rw [← hr] at hcl
   have HC : Hid (∀ w', Below wr.heap.size wr w' → (∀ q c, ([c0, c1, c2, c3, c4] : List Value)[q]? = some c → w'.cell? ⟨b1, j * 5 + q, none⟩ = some c) ∧ (∀ q c, ([d0, d1, d2, d3, d4] : List Value)[q]? = some c → w'.cell? ⟨b2, j * 5 + q, none⟩ = some c)) := fun w' bb => ⟨fun q c hq => by rw [bb.cell (p := ⟨b1, _, none⟩) hb1]; exact hc1' q c hq, fun q c hq => by rw [bb.cell (p := ⟨b2, _, none⟩) hb2]; exact hc2' q c hq⟩
   have HF := hide (Ya hx (Ya hy (Ya hall (Ya bw hr))))
   clear ha hb hf bw hall hx hy hc1' hc2' hp1 hp2 hl1 hl2 hn1 hn2 HA HV hb1 hb2 hr HB bd
   go_wp2_with fail
   refine Qak (md := [(0, true), (1, true), (2, true), (3, true), (4, true), (5, true), (6, true), (7, true), (8, true), (9, false), (10, true)]) (fun w' => (∀ q c, ([c0, c1, c2, c3, c4] : List Value)[q]? = some c → w'.cell? ⟨b1, j * 5 + q, none⟩ = some c) ∧ (∀ q c, ([d0, d1, d2, d3, d4] : List Value)[q]? = some c → w'.cell? ⟨b2, j * 5 + q, none⟩ = some c)) mixedO (by kernel_rfl) rfl (by kernel_rfl) (fun PP hPP => ?_)
   iterate 3 refine Qaa rfl (by kernel_rfl) (fun _ _ => by go_simp <;> rfl) ?_
   refine Qaa rfl (by kernel_rfl) (fun w' hw => by have L := Qgu (w := w') (fun q c hq => hw.1 q c hq); go_simp <;> rfl) ?_
   iterate 3 refine Qaa rfl (by kernel_rfl) (fun _ _ => by go_simp <;> rfl) ?_
   refine Qaa rfl (by kernel_rfl) (fun w' hw => by have L := Qgu (w := w') (fun q c hq => hw.2 q c hq); go_simp <;> rfl) ?_
   refine Qaa rfl (by kernel_rfl) (fun _ _ => by go_simp <;> rfl) ?_
   refine Qal rfl (Qa HC _ ((Below.refl _ wr).drew)) (fun K hK => ?_)
   go_simp
   refine hcl.mono ?_
   clear hcl
   rintro en w4 ⟨rfl, b4⟩
   have B4 := hide (((Below.refl _ wr).drew).trans b4)
   clear b4
   cases r
   ·
    go_wp2_with fail
    refine Qaa rfl (by kernel_rfl) (fun _ _ => by go_simp <;> rfl) ?_
    refine Qan (Qa HC _ (Qa B4)) (hPP _ _ ?_)
    clear hPP PP
    simp [Act.put, Array.setIfInBounds]
    go_wp2_with fail
    go_ret
    obtain ⟨hx, hy, hall, bw, hr⟩ := Qa HF
    exact ⟨by rw [Qai hx hy hr.symm]; rfl, bw.trans ((Qa B4).mono bw.size)⟩
   go_wp2_with fail
   refine Qaa rfl (by kernel_rfl) (fun _ _ => by go_simp <;> rfl) ?_
   refine Qan (Qa HC _ (Qa B4)) (hPP _ _ ?_)
   clear hPP PP
   simp [Act.put, Array.setIfInBounds]
   go_wp2_with fail
   go_roundw
   case rel =>
    obtain ⟨hx, hy, hall, bw, hr⟩ := Qa HF
    refine ⟨j + 1, by go_num, by omega, hide ⟨bw.trans ((Qa B4).mono bw.size), fun q x' y' hq hx' hy' => ?_⟩⟩
    by_cases e : q = j
    ·
     subst e
     rw [hx] at hx'
     rw [hy] at hy'
     cases hx'
     cases hy'
     exact hr.symm
    · exact hall q x' y' (by omega) hx' hy'
   case measure => simp [intOf]; omega
  obtain ⟨bw, hall⟩ := Qa HB
  have HF := hide (Ya bw hall)
  clear bw hall HB
  go_wp2_with fail
  go_ret
  obtain ⟨bw, hall⟩ := Qa HF
  obtain ⟨_, _, _, hn1, hn2⟩ := Qa HA
  exact ⟨by rw [Qbd (by omega) (fun q x' y' hx' hy' => hall q x' y' (by have := (List.getElem?_eq_some_iff.1 hx').1; omega) hx' hy')]; rfl, bw⟩
 have hne : ((n1 : Int) != (n2 : Int)) = true := by simp; omega
 go_enter Tryz.func79, Tryz.ntmps79
 go_wp2_with fail
 go_ret
 obtain ⟨_, _, _, hn1, hn2⟩ := Qa HA
 exact ⟨by rw [Qbo (by omega)]; rfl, Below.refl _ _⟩
theorem and_t (a b c d : Bool) : (a && b && c && true && d) = (a && b && c && d) := by cases a <;> cases b <;> cases c <;> cases d <;> rfl
theorem Qfp (x : Ex) : ∀ (y : Ex) (S : Nat → Prop) (w : World) (c0 c1 c2 c3 c4 d0 d1 d2 d3 d4 : Value), ExS S w [c0, c1, c2, c3, c4] x → ExS S w [d0, d1, d2, d3, d4] y →
  Calls Tryz.prog 49 #[.agg #[c0, c1, c2, c3, c4], .agg #[d0, d1, d2, d3, d4], .bool false] w fun en w' => en = .returned (.bool (eqE x y)) ∧ Below w.heap.size w w' :=
 match x with
 | .mk k n s ks a => fun y S w c0 c1 c2 c3 c4 d0 d1 d2 d3 d4 hx hy => by
  obtain ⟨v, ex, ⟨xa, xc, rfl⟩, hkx⟩ := hx.cells
  obtain ⟨u, ey, ⟨ya, yc, rfl⟩, hky⟩ := hy.cells
  simp only [List.cons.injEq, and_true] at ex ey
  obtain ⟨rfl, rfl, rfl, rfl, rfl⟩ := ex
  obtain ⟨rfl, rfl, rfl, rfl, rfl⟩ := ey
  rw [Qqr, ← and_t]
  refine Qnk rfl rfl rfl (fun w' _ => Qcd _ _ w') (fun w' hb => ?_)
  refine (Qnl (hkx.later Qae hb) (hky.later Qae hb) (fun j x1 y1 hx1 hy1 w1 e0 e1 e2 e3 e4 f0 f1 f2 f3 f4 _ h1 h2 => ?_)).mono (fun _ _ h => h)
  have hm : x1 ∈ ks := List.mem_of_getElem? hx1
  exact Qfp x1 y1 S w1 e0 e1 e2 e3 e4 f0 f1 f2 f3 f4 h1 h2
termination_by SizeOf.sizeOf x
decreasing_by
 have := List.sizeOf_lt_of_mem hm
 simp only [Ex.mk.sizeOf_spec]
 omega
theorem Qjv {x y : Atm} {S : Nat → Prop} {w : World} {xa ya : Option Addr} {xn xc yn yc : Nat} (hx : LsAt PE 5 S w (.slice xa xn xc) x.args) (hy : LsAt PE 5 S w (.slice ya yn yc) y.args) :
  Calls Tryz.prog 48 #[.agg #[str x.rel, .slice xa xn xc, .int .i64 x.at_], .agg #[str y.rel, .slice ya yn yc, .int .i64 y.at_], .bool false] w fun en w' => en = .returned (.bool (eqA x y)) ∧ Below w.heap.size w w' := by
 have e : eqA x y = (decide (x.rel = y.rel) && true && eqL eqE x.args y.args) := by unfold eqA; rw [Bool.and_true]
 rw [e]
 exact Qnj rfl (fun w' _ => Qcd _ _ w') (fun w' hb => Qnl (hx.later Qae hb) (hy.later Qae hb) (fun j x1 y1 _ _ w1 e0 e1 e2 e3 e4 f0 f1 f2 f3 f4 _ h1 h2 => Qfp x1 y1 S w1 e0 e1 e2 e3 e4 f0 f1 f2 f3 f4 h1 h2))
end
section
open Go.RowKit Go.Maps
def vx (c : UInt8) (a : Int) : Ex := .mk 1 0 [c] [] a
def live : Pg := .mk [] [] [] [] [⟨⟨[112], [vx 120 2, vx 121 5], 0⟩, [⟨1, ⟨[101], [vx 120 13, vx 122 16], 11⟩, [], .none, .none, 11⟩, ⟨1, ⟨[112], [vx 122 22, vx 121 25], 20⟩, [], .none, .none, 20⟩, ⟨3, .none, [60], vx 120 29, .mk 2 (-3) [] [] 33, 29⟩], 0⟩]
def ltoks : List Tok := (lexP (⟨#[112, 40, 120, 44, 32, 121, 41, 32, 58, 45, 32, 101, 40, 120, 44, 32, 122, 41, 44, 32, 112, 40, 122, 44, 32, 121, 41, 44, 32, 120, 32, 60, 32, 45, 51, 46]⟩ : ByteArray).data.toList).toks
attribute [local go_sem ↓] Qdf Qed
end
section
open Go.RowKit
def SlAt (w : World) (v : Value) (toks : List Tok) : Prop := ∃ ao cap, v = .slice ao toks.length cap ∧ toks.length ≤ cap ∧ cap ≤ maxLen ∧ (toks = [] ∨ ∃ g, ao = some ⟨g, 0, none⟩ ∧ RowAt w g cap toks)
theorem SlAt.later {w w' : World} {v : Value} {toks : List Tok} (h : SlAt w v toks) (hb : Below w.heap.size w w') : SlAt w' v toks := by
 obtain ⟨ao, cap, hv, h1, h2, h3⟩ := h
 refine ⟨ao, cap, hv, h1, h2, ?_⟩
 rcases h3 with h | ⟨g, hg, hr⟩
 · exact .inl h
 · exact .inr ⟨g, hg, hr.later hb⟩
def Alike (p : Bool) (x y : Tok) : Prop := x.kind = y.kind ∧ x.text = y.text ∧ x.num = y.num ∧ (p = true → x.at_ = y.at_)
end
section
open Go.RowKit
def gapV (k : Nat) : G → Int
 | .none => (k : Int)
 | .gap n => (k : Int) + (n : Int)
 | .never => -1
theorem ce_at {s : ByteArray} {m : Nat} (h : m < s.size) (hp : pre [42, 47] (s.data.toList.drop m) = false) : cEnd (s.data.toList.drop m) = (cEnd (s.data.toList.drop (m + 1))).map (· + 1) := by
 rw [Qb s m h] at hp ⊢
 rw [cEnd, if_neg (by rw [hp]; simp)]
def CeAt (s : ByteArray) (k m : Nat) : Prop := k ≤ m ∧ m ≤ s.size ∧ cEnd (s.data.toList.drop k) = (cEnd (s.data.toList.drop m)).map (· + (m - k))
theorem CeAt.step {s : ByteArray} {k m : Nat} (h : CeAt s k m) (hm : m < s.size) (hp : pre [42, 47] (s.data.toList.drop m) = false) : CeAt s k (m + 1) := by
 obtain ⟨h1, h2, h3⟩ := h
 refine ⟨by omega, by omega, ?_⟩
 rw [h3, ce_at hm hp, Option.map_map]
 cases cEnd (s.data.toList.drop (m + 1)) with
 | none => rfl
 | some j => simp; omega
end
section
open Go.RowKit
theorem isD_iff {n : Int} : isD n = true ↔ 48 ≤ n ∧ n ≤ 57 := by simp [isD]
theorem Qzi : ∀ (l : Txt) (acc : Nat) (c : UInt8), vl acc (l ++ [c]) = vl acc l * 10 + (c.toNat - 48)
 | [], _, _ => rfl
 | _ :: l, _, c => Qzi l _ c
def vlAt (s : ByteArray) (k m : Nat) : Nat := vl 0 ((s.data.toList.drop k).take (m - k))
theorem Qog {s : ByteArray} {k m : Nat} (hk : k ≤ m) (hm : m < s.size) : vlAt s k (m + 1) = vlAt s k m * 10 + (s[m].toNat - 48) := by
 unfold vlAt
 have e : m + 1 - k = (m - k) + 1 := by omega
 have hlen : m - k < (s.data.toList.drop k).length := by rw [Qcn]; omega
 have e2 : (s.data.toList.drop k)[m - k] = s[m] := by
  rw [List.getElem_drop]
  have e3 : k + (m - k) = m := by omega
  simp only [e3]
  rfl
 rw [e, List.take_succ_eq_append_getElem hlen, Qzi, e2]
structure NuI (s : ByteArray) (k m : Nat) (n : Int) (ov : Bool) : Prop where
 h1 : k ≤ m
 h2 : m ≤ k + dgLen (s.data.toList.drop k)
 v : ov = decide (9223372036854775807 < vlAt s k m)
 n0 : 0 ≤ n
 n1 : n ≤ 9223372036854775807
 n : ov = false → n = (vlAt s k m : Int)
theorem NuI.over {s : ByteArray} {k m : Nat} {n : Int} (h : NuI s k m n true) (hm : m < s.size) (hlt : m < k + dgLen (s.data.toList.drop k)) : NuI s k (m + 1) n true := by
 refine ⟨by have := h.h1; omega, by omega, ?_, h.n0, h.n1, (fun e => by cases e)⟩
 have hv := of_decide_eq_true h.v.symm
 rw [eq_comm, decide_eq_true_eq, Qog h.h1 hm]; omega
theorem NuI.step {s : ByteArray} {k m : Nat} {n : Int} (h : NuI s k m n false) (hm : m < s.size) (hlt : m < k + dgLen (s.data.toList.drop k)) (hd : isD (bv s[m]) = true) :
  (¬ (9223372036854775807 - ((s[m].toNat : Int) - 48)) / 10 < n → NuI s k (m + 1) (n * 10 + ((s[m].toNat : Int) - 48)) false) ∧ ((9223372036854775807 - ((s[m].toNat : Int) - 48)) / 10 < n → NuI s k (m + 1) n true) := by
 have hv := h.n rfl
 have hd' : 48 ≤ (s[m].toNat : Int) ∧ (s[m].toNat : Int) ≤ 57 := by
  exact isD_iff.1 hd
 have e := Qog h.h1 hm
 have n0 := h.n0
 constructor
 ·
  intro hlt2
  refine ⟨by have := h.h1; omega, by omega, ?_, by omega, by omega, fun _ => by rw [e]; omega⟩
  rw [eq_comm, decide_eq_false_iff_not, e]; omega
 intro hlt2
 refine ⟨by have := h.h1; omega, by omega, ?_, h.n0, h.n1, (fun e => by cases e)⟩
 rw [eq_comm, decide_eq_true_eq, e]; omega
end
section
open Go.ChangeShapes Go.WideShapes Go.RowKit

end
section
open Go.RowKit
abbrev hdO : Obj := .cells #[str [46, 100, 101, 99, 108], str [46, 116, 121, 112, 101], str [46, 99, 111, 109, 112], str [46, 105, 110, 105, 116]] 9
abbrev twO : Obj := .cells #[str [58, 45], str [60, 58], str [60, 61], str [62, 61], str [33, 61]] 9
def sgStr (s : ByteArray) (k : Nat) : ByteArray := ⟨((s.data.toList.drop k).take (sgLen (s.data.toList.drop k))).toArray⟩
end
section
open Go.RowKit
structure RkInv (s : ByteArray) (w : World) (v : Value) (wr : World) (toks : List Tok) (m : Nat) : Prop where
 own : wr.ownsRow (w.heap.size + 1) 83 4 v toks.length (tokCells toks)
 bel : Below w.heap.size w wr
 rb : wr.heap[w.heap.size]? = some fltZ
 ms : m ≤ s.size
 tl : toks.length ≤ m
 sc : scan 0 s.data.toList = (scan m (s.data.toList.drop m)).app toks
def RkRel (s : ByteArray) (w : World) (v i : Value) (wr : World) : Prop := ∃ (toks : List Tok) (m : Nat), i = .int .i64 (m : Int) ∧ Hid (RkInv s w v wr toks m)
structure Aft (w wr w8 : World) (v : Value) (toks : List Tok) (kd : Int) (tx : ByteArray) (nm a why fa : Int) : Prop where
 ft : w8.heap[wr.heap.size]? = some (.cells #[.int .i64 kd, .string tx, .int .i64 nm, .int .i64 a] 83)
 ff : w8.heap[wr.heap.size + 1]? = some (.cells #[.int .i64 why, .int .i64 fa] 31)
 fr : w8.heap[w.heap.size]? = some fltZ
 bel : Below w.heap.size w w8
 own : w8.ownsRow (w.heap.size + 1) 83 4 v toks.length (tokCells toks)
 sz : wr.heap.size + 2 ≤ w8.heap.size
theorem app_nil (o : Out) : o.app [] = o := by cases o <;> rfl
end
section
open Go.RowKit
attribute [local go_sem ↓] Qgy Qjz Qik Qmx
end
section
open Go.RowKit Go.Maps
theorem SlAt.take {w : World} {a : Option Addr} {c n : Nat} {l : List Tok} (h : SlAt w (.slice a l.length c) l) (hn : n ≤ l.length) : SlAt w (.slice a n c) (l.take n) := by
 obtain ⟨ao, cap, e, h1, h2, h3⟩ := h
 cases e
 have hl : (l.take n).length = n := by rw [List.length_take]; omega
 refine ⟨a, c, by rw [hl], by rw [hl]; omega, h2, ?_⟩
 rcases h3 with h3 | ⟨g, hg, hr⟩
 · exact .inl (by rw [h3]; simp)
 refine .inr ⟨g, hg, hr.lt, by rw [hl]; omega, hr.cm, fun i t ht => hr.cells i t ?_⟩
 rw [List.getElem?_take] at ht
 split at ht
 · exact ht
 · cases ht
theorem Qaq {P : Program} {ops : Array Oper} {C : World → Prop} {Q : Exit → Act → World → Prop} {r : List (Nat × Bool)} {a : Act} {w : World} {k : Nat} {o : Oper} (ho : ops[k]? = some o) (hC : C w) (hw : Region.wanted o (yielded ops a.tmps) = false) (h : wpMix P ops C Q r (a.put o.dst undef) w) : wpMix P ops C Q ((k, false) :: r) a w :=
 Qal ho hC (fun K hK => by rw [if_neg (by rw [hw]; decide)]; exact hK _ _ h)
theorem cs3 {w : World} {b o : Nat} {c0 c1 c2 : Value} (h : ∀ q c, ([c0, c1, c2] : List Value)[q]? = some c → w.cell? ⟨b, o + q, none⟩ = some c) : w.cell? ⟨b, o, none⟩ = some c0 ∧ w.cell? ⟨b, o + 1, none⟩ = some c1 ∧ w.cell? ⟨b, o + 2, none⟩ = some c2 := ⟨h 0 _ rfl, h 1 _ rfl, h 2 _ rfl⟩
theorem cs4 {w : World} {b o : Nat} {c0 c1 c2 c3 : Value} (h : ∀ q c, ([c0, c1, c2, c3] : List Value)[q]? = some c → w.cell? ⟨b, o + q, none⟩ = some c) : w.cell? ⟨b, o, none⟩ = some c0 ∧ w.cell? ⟨b, o + 1, none⟩ = some c1 ∧ w.cell? ⟨b, o + 2, none⟩ = some c2 ∧ w.cell? ⟨b, o + 3, none⟩ = some c3 := ⟨h 0 _ rfl, h 1 _ rfl, h 2 _ rfl, h 3 _ rfl⟩
theorem cs5 {w : World} {b o : Nat} {c0 c1 c2 c3 c4 : Value} (h : ∀ q c, ([c0, c1, c2, c3, c4] : List Value)[q]? = some c → w.cell? ⟨b, o + q, none⟩ = some c) : w.cell? ⟨b, o, none⟩ = some c0 ∧ w.cell? ⟨b, o + 1, none⟩ = some c1 ∧ w.cell? ⟨b, o + 2, none⟩ = some c2 ∧ w.cell? ⟨b, o + 3, none⟩ = some c3 ∧ w.cell? ⟨b, o + 4, none⟩ = some c4 := ⟨h 0 _ rfl, h 1 _ rfl, h 2 _ rfl, h 3 _ rfl, h 4 _ rfl⟩
theorem cs8 {w : World} {b o : Nat} {c0 c1 c2 c3 c4 c5 c6 c7 : Value} (h : ∀ q c, ([c0, c1, c2, c3, c4, c5, c6, c7] : List Value)[q]? = some c → w.cell? ⟨b, o + q, none⟩ = some c) : w.cell? ⟨b, o, none⟩ = some c0 ∧ w.cell? ⟨b, o + 1, none⟩ = some c1 ∧ w.cell? ⟨b, o + 2, none⟩ = some c2 ∧ w.cell? ⟨b, o + 3, none⟩ = some c3 ∧ w.cell? ⟨b, o + 4, none⟩ = some c4 ∧ w.cell? ⟨b, o + 5, none⟩ = some c5 ∧ w.cell? ⟨b, o + 6, none⟩ = some c6 ∧ w.cell? ⟨b, o + 7, none⟩ = some c7 := ⟨h 0 _ rfl, h 1 _ rfl, h 2 _ rfl, h 3 _ rfl, h 4 _ rfl, h 5 _ rfl, h 6 _ rfl, h 7 _ rfl⟩
end
end Go.Proofs.YtccehgfecaamoaaGreatDoor
