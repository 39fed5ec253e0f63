/- slices.Equal at slices.Equal[[]vestry/api.Field,vestry/api.Field]. slices.Equal at slices.Equal[[]string,string]. slices.EqualFunc at Expr. slices.EqualFunc at Lit. slices.EqualFunc at Ctor. -/
import Derived.Test.YtccehgfecaamoaaGreatDoorQa23
set_option maxRecDepth 100000
set_option maxHeartbeats 32000000
namespace Go.Proofs.YtccehgfecaamoaaGreatDoor
section
open Go.RowKit Go.Maps
def eqFd (x y : Fld) : Bool := decide (x.name = y.name) && decide (x.type = y.type)
theorem Qor {S : Nat → Prop} {w : World} {va vb : Value} {xs ys : List Fld} (ha : LsAt PF 2 S w va xs) (hb : LsAt PF 2 S w vb ys) :
  Calls Tryz.prog 74 #[va, vb] w fun en w' => en = .returned (.bool (eqL eqFd xs ys)) ∧ Below w.heap.size w w' := by
 obtain ⟨a1, p1, e1⟩ := ha.sl
 obtain ⟨a2, p2, e2⟩ := hb.sl
 have hm1 : xs.length ≤ p1 ∧ p1 ≤ maxLen := by
  obtain ⟨_, _, _, e, h1, h2, _⟩ := ha
  rw [e] at e1
  cases e1
  exact ⟨h1, h2⟩
 have hm2 : ys.length ≤ p2 ∧ p2 ≤ maxLen := by
  obtain ⟨_, _, _, e, h1, h2, _⟩ := hb
  rw [e] at e2
  cases e2
  exact ⟨h1, h2⟩
 unfold maxLen at hm1 hm2
 obtain ⟨n1, hn1⟩ : ∃ n, xs.length = n := ⟨_, rfl⟩
 obtain ⟨n2, hn2⟩ : ∃ n, ys.length = n := ⟨_, rfl⟩
 rw [hn1] at e1 hm1
 rw [hn2] at e2 hm2
 obtain ⟨hc1, hc2⟩ := hm1
 obtain ⟨hc3, hc4⟩ := hm2
 have HA := hide (Ya ha (Ya hb (Ya hn1 hn2)))
 have HV := hide (Ya e1 e2)
 rw [e1, e2]
 clear ha hb e1 e2 hn1 hn2
 by_cases hlen : n1 = n2
 ·
  subst hlen
  go_enter Tryz.func74, Tryz.ntmps74
  go_wp2_with fail
  go_loopw [13] (fun i wr => ∃ j : Nat, i = .int .i64 (j : Int) ∧ j ≤ n1 ∧ Hid (Below w.heap.size w wr ∧ ∀ q x y, q < j → xs[q]? = some x → ys[q]? = some y → eqFd x y = true)) (fun i _ => n1 - (intOf i).toNat)
  case atStart => exact ⟨0, rfl, Nat.zero_le _, hide ⟨Below.refl _ _, fun q _ _ hq => absurd hq (Nat.not_lt_zero _)⟩⟩
  obtain ⟨j, rfl, hj, HB⟩ := hrel
  by_cases hlt : j < n1
  ·
   obtain ⟨ha, hb, hn1, hn2⟩ := Qa HA
   obtain ⟨bw, hall⟩ := Qa HB
   obtain ⟨x, hx⟩ : ∃ x, xs[j]? = some x := ⟨xs[j]'(by omega), List.getElem?_eq_getElem _⟩
   obtain ⟨y, hy⟩ : ∃ y, ys[j]? = some y := ⟨ys[j]'(by omega), List.getElem?_eq_getElem _⟩
   obtain ⟨b1, q1, cs1, ev1, hb1, _, hl1, hp1, hc1'⟩ := (ha.later Qbv bw).elem hx
   obtain ⟨b2, q2, cs2, ev2, hb2, _, hl2, hp2, hc2'⟩ := (hb.later Qbv bw).elem hy
   have hp1 : cs1 = [str x.name, str x.type] := hp1
   have hp2 : cs2 = [str y.name, str y.type] := hp2
   subst hp1
   subst hp2
   rw [(Qa HV).1, hn1] at ev1
   rw [(Qa HV).2, hn2] at ev2
   simp only [Value.slice.injEq] at ev1 ev2
   obtain ⟨rfl, -, -⟩ := ev1
   obtain ⟨rfl, -, -⟩ := ev2
   have x_0 : wr.cell? ⟨b1, j * 2, none⟩ = some (str x.name) := hc1' 0 _ rfl
   have y_0 : wr.cell? ⟨b2, j * 2, none⟩ = some (str y.name) := hc2' 0 _ rfl
   have x_1 : wr.cell? ⟨b1, j * 2 + 1, none⟩ = some (str x.type) := hc1' 1 _ rfl
   have y_1 : wr.cell? ⟨b2, j * 2 + 1, none⟩ = some (str y.type) := hc2' 1 _ rfl
   clear ha hb hc1' hc2' hl1 hl2 hn1 hn2 HA HV HB
   by_cases e0 : x.name = y.name
   ·
    have g0 : (x.name == y.name) = true := by simpa using e0
    by_cases e1 : x.type = y.type
    ·
     have g1 : (x.type == y.type) = true := by simpa using e1
     have HF := hide (Ya hx (Ya hy (Ya hall (Ya bw (show eqFd x y = true by unfold eqFd; simp [e0, e1])))))
     clear hx hy hall bw e0 e1
     go_wp2_with fail
     go_region
     all_goals
      go_wp2_with fail
      go_roundw
      case rel =>
       obtain ⟨hx, hy, hall, bw, hr⟩ := Qa HF
       refine ⟨j + 1, by go_num, by omega, hide ⟨bw.drew, fun q x' y' hq hx' hy' => ?_⟩⟩
       by_cases e : q = j
       ·
        subst e
        rw [hx] at hx'
        rw [hy] at hy'
        cases hx'
        cases hy'
        exact hr
       · exact hall q x' y' (by omega) hx' hy'
      case measure => simp [intOf]; omega
    have g1 : (x.type == y.type) = false := by simpa using e1
    have HF := hide (Ya hx (Ya hy (Ya hall (Ya bw (show eqFd x y = false by unfold eqFd; simp [e0, e1])))))
    clear hx hy hall bw e0 e1
    go_wp2_with fail
    go_region
    all_goals
     go_wp2_with fail
     go_ret
     obtain ⟨hx, hy, hall, bw, hr⟩ := Qa HF
     exact ⟨by rw [Qbd hx hy hr]; rfl, bw.drew⟩
   have g0 : (x.name == y.name) = false := by simpa using e0
   have HF := hide (Ya hx (Ya hy (Ya hall (Ya bw (show eqFd x y = false by unfold eqFd; simp [e0])))))
   clear hx hy hall bw e0
   go_wp2_with fail
   go_region
   all_goals
    go_wp2_with fail
    go_ret
    obtain ⟨hx, hy, hall, bw, hr⟩ := Qa HF
    exact ⟨by rw [Qbd hx hy hr]; rfl, bw.drew⟩
  obtain ⟨bw, hall⟩ := Qa HB
  have HF := hide (Ya bw hall)
  clear bw hall HB
  go_wp2_with fail
  go_ret
  obtain ⟨bw, hall⟩ := Qa HF
  obtain ⟨_, _, hn1, hn2⟩ := Qa HA
  exact ⟨by rw [Qbz (by omega) (fun q x' y' hx' hy' => hall q x' y' (by have := (List.getElem?_eq_some_iff.1 hx').1; omega) hx' hy')]; rfl, bw⟩
 have hne : ((n1 : Int) != (n2 : Int)) = true := by simp; omega
 go_enter Tryz.func74, Tryz.ntmps74
 go_wp2_with fail
 go_ret
 obtain ⟨_, _, hn1, hn2⟩ := Qa HA
 exact ⟨by rw [Qcq (by omega)]; rfl, Below.refl _ _⟩
end
section
open Go.RowKit Go.Maps
def eqTx (x y : Txt) : Bool := decide (x = y)
theorem equal_s {S : Nat → Prop} {w : World} {va vb : Value} {xs ys : List Txt} (ha : LsAt PSt 1 S w va xs) (hb : LsAt PSt 1 S w vb ys) :
  Calls Tryz.prog 75 #[va, vb] w fun en w' => en = .returned (.bool (eqL eqTx xs ys)) ∧ Below w.heap.size w w' := by
 obtain ⟨a1, p1, e1⟩ := ha.sl
 obtain ⟨a2, p2, e2⟩ := hb.sl
 have hm1 : xs.length ≤ p1 ∧ p1 ≤ maxLen := by
  obtain ⟨_, _, _, e, h1, h2, _⟩ := ha
  rw [e] at e1
  cases e1
  exact ⟨h1, h2⟩
 have hm2 : ys.length ≤ p2 ∧ p2 ≤ maxLen := by
  obtain ⟨_, _, _, e, h1, h2, _⟩ := hb
  rw [e] at e2
  cases e2
  exact ⟨h1, h2⟩
 unfold maxLen at hm1 hm2
 obtain ⟨n1, hn1⟩ : ∃ n, xs.length = n := ⟨_, rfl⟩
 obtain ⟨n2, hn2⟩ : ∃ n, ys.length = n := ⟨_, rfl⟩
 rw [hn1] at e1 hm1
 rw [hn2] at e2 hm2
 obtain ⟨hc1, hc2⟩ := hm1
 obtain ⟨hc3, hc4⟩ := hm2
 have HA := hide (Ya ha (Ya hb (Ya hn1 hn2)))
 have HV := hide (Ya e1 e2)
 rw [e1, e2]
 clear ha hb e1 e2 hn1 hn2
 by_cases hlen : n1 = n2
 ·
  subst hlen
  go_enter Tryz.func75, Tryz.ntmps75
  go_wp2_with fail
  go_loopw [13] (fun i wr => ∃ j : Nat, i = .int .i64 (j : Int) ∧ j ≤ n1 ∧ Hid (Below w.heap.size w wr ∧ ∀ q x y, q < j → xs[q]? = some x → ys[q]? = some y → eqTx x y = true)) (fun i _ => n1 - (intOf i).toNat)
  case atStart => exact ⟨0, rfl, Nat.zero_le _, hide ⟨Below.refl _ _, fun q _ _ hq => absurd hq (Nat.not_lt_zero _)⟩⟩
  obtain ⟨j, rfl, hj, HB⟩ := hrel
  by_cases hlt : j < n1
  ·
   obtain ⟨ha, hb, hn1, hn2⟩ := Qa HA
   obtain ⟨bw, hall⟩ := Qa HB
   obtain ⟨x, hx⟩ : ∃ x, xs[j]? = some x := ⟨xs[j]'(by omega), List.getElem?_eq_getElem _⟩
   obtain ⟨y, hy⟩ : ∃ y, ys[j]? = some y := ⟨ys[j]'(by omega), List.getElem?_eq_getElem _⟩
   obtain ⟨b1, q1, cs1, ev1, hb1, _, hl1, hp1, hc1'⟩ := (ha.later Qbo bw).elem hx
   obtain ⟨b2, q2, cs2, ev2, hb2, _, hl2, hp2, hc2'⟩ := (hb.later Qbo bw).elem hy
   have hp1 : cs1 = [str x] := hp1
   have hp2 : cs2 = [str y] := hp2
   subst hp1
   subst hp2
   rw [(Qa HV).1, hn1] at ev1
   rw [(Qa HV).2, hn2] at ev2
   simp only [Value.slice.injEq] at ev1 ev2
   obtain ⟨rfl, -, -⟩ := ev1
   obtain ⟨rfl, -, -⟩ := ev2
   simp only [Nat.mul_one] at hc1' hc2'
   have x_0 : wr.cell? ⟨b1, j, none⟩ = some (str x) := hc1' 0 _ rfl
   have y_0 : wr.cell? ⟨b2, j, none⟩ = some (str y) := hc2' 0 _ rfl
   clear ha hb hc1' hc2' hl1 hl2 hn1 hn2 HA HV HB
   by_cases e0 : x = y
   ·
    have g0 : (x == y) = true := by simpa using e0
    have HF := hide (Ya hx (Ya hy (Ya hall (Ya bw (show eqTx x y = true by unfold eqTx; simp [e0])))))
    clear hx hy hall bw e0
    go_wp2_with fail
    go_region
    all_goals
     go_wp2_with fail
     go_roundw
     case rel =>
      obtain ⟨hx, hy, hall, bw, hr⟩ := Qa HF
      refine ⟨j + 1, by go_num, by omega, hide ⟨bw.drew, fun q x' y' hq hx' hy' => ?_⟩⟩
      by_cases e : q = j
      ·
       subst e
       rw [hx] at hx'
       rw [hy] at hy'
       cases hx'
       cases hy'
       exact hr
      · exact hall q x' y' (by omega) hx' hy'
     case measure => simp [intOf]; omega
   have g0 : (x == y) = false := by simpa using e0
   have HF := hide (Ya hx (Ya hy (Ya hall (Ya bw (show eqTx x y = false by unfold eqTx; simp [e0])))))
   clear hx hy hall bw e0
   go_wp2_with fail
   go_region
   all_goals
    go_wp2_with fail
    go_ret
    obtain ⟨hx, hy, hall, bw, hr⟩ := Qa HF
    exact ⟨by rw [Qbd hx hy hr]; rfl, bw.drew⟩
  obtain ⟨bw, hall⟩ := Qa HB
  have HF := hide (Ya bw hall)
  clear bw hall HB
  go_wp2_with fail
  go_ret
  obtain ⟨bw, hall⟩ := Qa HF
  obtain ⟨_, _, hn1, hn2⟩ := Qa HA
  exact ⟨by rw [Qbz (by omega) (fun q x' y' hx' hy' => hall q x' y' (by have := (List.getElem?_eq_some_iff.1 hx').1; omega) hx' hy')]; rfl, bw⟩
 have hne : ((n1 : Int) != (n2 : Int)) = true := by simp; omega
 go_enter Tryz.func75, Tryz.ntmps75
 go_wp2_with fail
 go_ret
 obtain ⟨_, _, hn1, hn2⟩ := Qa HA
 exact ⟨by rw [Qcq (by omega)]; rfl, Below.refl _ _⟩
end
section
open Go.RowKit Go.Maps
def qeLoad (a : Value) : Sem Value := Instr.loadAt 67 a
theorem Qpz (a : Value) : Instr.loadAt 67 a = qeLoad a := rfl
def qeStore (p v : Value) : Sem Unit := Instr.storeAt 67 p v
theorem Qna (p v : Value) : Instr.storeAt 67 p v = qeStore p v := rfl
theorem Qqy : (Tryz.prog.info? 67).map (·.size) = some 5 := by kernel_rfl
theorem Qhu {w : World} {b o : Nat} {c0 c1 c2 c3 c4 : Value} (h : ∀ q c, ([c0, c1, c2, c3, c4] : List Value)[q]? = some c → w.cell? ⟨b, o + q, none⟩ = some c) : (qeLoad (.pointer (some ⟨b, o, none⟩))).run Tryz.prog w = .ok (.agg #[c0, c1, c2, c3, c4]) w :=
 run_loadAt_mid w b o 67 [c0, c1, c2, c3, c4] _ (fun q v hq => h q v hq) Tryz.underlying67 rfl Qqy
theorem Qum (w : World) {c0 c1 c2 c3 c4 : Value} (h1 : ∀ c ∈ ([c0, c1, c2, c3, c4] : List Value), c.oneCell' = true) : (qeStore (.pointer (some ⟨w.heap.size, 0, none⟩)) (.agg #[c0, c1, c2, c3, c4])).run Tryz.prog (w.alloc (.cells #[.int .i64 0, .int .i64 0, .string ⟨#[]⟩, .slice none 0 0, .int .i64 0] 67)) = .ok () (w.alloc (.cells #[c0, c1, c2, c3, c4] 67)) :=
 run_storeAt_new w 67 _ _ Qqy rfl (by simpa using h1)
theorem Qub {cs : List Value} (h : cs.length = 5) : ∃ c0 c1 c2 c3 c4, cs = [c0, c1, c2, c3, c4] := by
 match cs, h with
 | [c0, c1, c2, c3, c4], _ => exact ⟨c0, c1, c2, c3, c4, rfl⟩
attribute [local go_sem ↓] Qpz Qna
theorem eqf_e {α : Type} {p : PS α} (hp : PSok p) (hone : ∀ S w cs x, p S w cs x → ∀ c ∈ cs, c.oneCell' = true) {S : Nat → Prop} {w : World} {va vb : Value} {xs ys : List α} (eq : α → α → Bool) (ha : LsAt p 5 S w va xs) (hb : LsAt p 5 S w vb ys)
  (hf : ∀ (j : Nat) (x y : α), xs[j]? = some x → ys[j]? = some y → ∀ w' c0 c1 c2 c3 c4 d0 d1 d2 d3 d4, Below w.heap.size w w' → p S w' [c0, c1, c2, c3, c4] x → p S w' [d0, d1, d2, d3, d4] y → Calls Tryz.prog 103 #[.agg #[c0, c1, c2, c3, c4], .agg #[d0, d1, d2, d3, d4]] w' fun en w2 => en = .returned (.bool (eq x y)) ∧ Below w'.heap.size w' w2) :
  Calls Tryz.prog 102 #[va, vb, .func (.func 103) #[] #[]] w fun en w' => en = .returned (.bool (eqL eq xs ys)) ∧ Below w.heap.size w w' := by
 obtain ⟨a1, p1, e1⟩ := ha.sl
 obtain ⟨a2, p2, e2⟩ := hb.sl
 have hm1 : xs.length ≤ p1 ∧ p1 ≤ maxLen := by
  obtain ⟨_, _, _, e, h1, h2, _⟩ := ha
  rw [e] at e1
  cases e1
  exact ⟨h1, h2⟩
 have hm2 : ys.length ≤ p2 ∧ p2 ≤ maxLen := by
  obtain ⟨_, _, _, e, h1, h2, _⟩ := hb
  rw [e] at e2
  cases e2
  exact ⟨h1, h2⟩
 unfold maxLen at hm1 hm2
 obtain ⟨n1, hn1⟩ : ∃ n, xs.length = n := ⟨_, rfl⟩
 obtain ⟨n2, hn2⟩ : ∃ n, ys.length = n := ⟨_, rfl⟩
 rw [hn1] at e1 hm1
 rw [hn2] at e2 hm2
 obtain ⟨hc1, hc2⟩ := hm1
 obtain ⟨hc3, hc4⟩ := hm2
 have HA := hide (Ya ha (Ya hb (Ya hf (Ya hn1 hn2))))
 have HV := hide (Ya e1 e2)
 rw [e1, e2]
 clear ha hb hf e1 e2 hn1 hn2
 by_cases hlen : n1 = n2
 ·
  subst hlen
  go_enter Tryz.func102, Tryz.ntmps102
  go_wp2_with fail
  go_loopw [17] (fun i wr => ∃ j : Nat, i = .int .i64 (j : Int) ∧ j ≤ n1 ∧ Hid (Below w.heap.size w wr ∧ ∀ q x y, q < j → xs[q]? = some x → ys[q]? = some y → eq x y = true)) (fun i _ => n1 - (intOf i).toNat)
  case atStart => exact ⟨0, rfl, Nat.zero_le _, hide ⟨Below.refl _ _, fun q _ _ hq => absurd hq (Nat.not_lt_zero _)⟩⟩
  obtain ⟨j, rfl, hj, HB⟩ := hrel
  by_cases hlt : j < n1
  ·
   obtain ⟨ha, hb, hf, hn1, hn2⟩ := Qa HA
   obtain ⟨bw, hall⟩ := Qa HB
   obtain ⟨x, hx⟩ : ∃ x, xs[j]? = some x := ⟨xs[j]'(by omega), List.getElem?_eq_getElem _⟩
   obtain ⟨y, hy⟩ : ∃ y, ys[j]? = some y := ⟨ys[j]'(by omega), List.getElem?_eq_getElem _⟩
   obtain ⟨b1, q1, cs1, ev1, hb1, _, hl1, hp1, hc1'⟩ := (ha.later hp bw).elem hx
   obtain ⟨b2, q2, cs2, ev2, hb2, _, hl2, hp2, hc2'⟩ := (hb.later hp bw).elem hy
   obtain ⟨c0, c1, c2, c3, c4, rfl⟩ := Qub hl1
   obtain ⟨d0, d1, d2, d3, d4, rfl⟩ := Qub hl2
   rw [(Qa HV).1, hn1] at ev1
   rw [(Qa HV).2, hn2] at ev2
   simp only [Value.slice.injEq] at ev1 ev2
   obtain ⟨rfl, -, -⟩ := ev1
   obtain ⟨rfl, -, -⟩ := ev2
   have h1 := hone _ _ _ _ hp1
   have h2 := hone _ _ _ _ hp2
   obtain ⟨W1, hW1⟩ : ∃ W1, W1 = wr.alloc (.cells #[c0, c1, c2, c3, c4] 67) := ⟨_, rfl⟩
   obtain ⟨W2, hW2⟩ : ∃ W2, W2 = W1.alloc (.cells #[d0, d1, d2, d3, d4] 67) := ⟨_, rfl⟩
   have s1 : W1.heap.size = wr.heap.size + 1 := by rw [hW1]; simp
   have B1 : Below wr.heap.size wr W1 := by rw [hW1]; exact (Below.refl _ wr).alloc (Nat.le_refl _) _
   have B2 : Below wr.heap.size wr W2 := by rw [hW2]; exact B1.alloc B1.size _
   have m1 : W1.heap[wr.heap.size]? = some (.cells #[c0, c1, c2, c3, c4] 67 (0, 0)) := by rw [hW1]; exact heap_alloc_new wr _
   have m2 : W2.heap[W1.heap.size]? = some (.cells #[d0, d1, d2, d3, d4] 67 (0, 0)) := by rw [hW2]; exact heap_alloc_new W1 _
   have m3 : W2.heap[wr.heap.size]? = some (.cells #[c0, c1, c2, c3, c4] 67 (0, 0)) := by rw [hW2, Below.heap_alloc _ _ _ (by omega)]; exact m1
   have L1 := Qhu (w := wr) (b := b1) (o := j * 5) hc1'
   have N1 := Qum wr h1
   have L2 := Qhu (w := W1) (b := b2) (o := j * 5) (fun q c hq => by rw [B1.cell (p := ⟨b2, _, none⟩) hb2]; exact hc2' q c hq)
   have N2 := Qum W1 h2
   have L3 := Qhu (w := W2) (b := wr.heap.size) (o := 0) (fun q c hq => by rw [Qaa m3, Nat.zero_add]; simpa using hq)
   have L4 := Qhu (w := W2) (b := W1.heap.size) (o := 0) (fun q c hq => by rw [Qaa m2, Nat.zero_add]; simpa using hq)
   have hcl := hf j x y hx hy W2 c0 c1 c2 c3 c4 d0 d1 d2 d3 d4 (bw.trans (B2.mono bw.size)) (hp.same _ _ _ _ _ hp1 B2.size (fun b _ hl => B2.block b hl)) (hp.same _ _ _ _ _ hp2 B2.size (fun b _ hl => B2.block b hl))
   rw [← hW1] at N1
   rw [← hW2] at N2
   obtain ⟨r, hr⟩ : ∃ r, r = eq x y := ⟨_, rfl⟩
   rw [← hr] at hcl
   have HF := hide (Ya hx (Ya hy (Ya hall (Ya (bw.trans (B2.mono bw.size)) hr))))
   clear ha hb hf bw hall hx hy hc1' hc2' hp1 hp2 hl1 hl2 h1 h2 hW1 hW2 s1 B1 B2 m1 m2 m3 hn1 hn2 HA HV hb1 hb2 hr HB
   cases r
   ·
    go_wp2_with fail
    refine hcl.mono ?_
    clear hcl
    rintro en w4 ⟨rfl, b4⟩
    have B4 := hide b4
    clear b4 L1 N1 L2 N2 L3 L4
    go_wp2_with fail
    go_ret
    obtain ⟨hx, hy, hall, bw, hr⟩ := Qa HF
    exact ⟨by rw [Qbd hx hy hr.symm]; rfl, bw.trans ((Qa B4).mono bw.size)⟩
   go_wp2_with fail
   refine hcl.mono ?_
   clear hcl
   rintro en w4 ⟨rfl, b4⟩
   have B4 := hide b4
   clear b4 L1 N1 L2 N2 L3 L4
   go_wp2_with fail
   go_roundw
   case rel =>
    obtain ⟨hx, hy, hall, bw, hr⟩ := Qa HF
    refine ⟨j + 1, by go_num, by omega, hide ⟨bw.trans ((Qa B4).mono bw.size), fun q x' y' hq hx' hy' => ?_⟩⟩
    by_cases e : q = j
    ·
     subst e
     rw [hx] at hx'
     rw [hy] at hy'
     cases hx'
     cases hy'
     exact hr.symm
    · exact hall q x' y' (by omega) hx' hy'
   case measure => simp [intOf]; omega
  obtain ⟨bw, hall⟩ := Qa HB
  have HF := hide (Ya bw hall)
  clear bw hall HB
  go_wp2_with fail
  go_ret
  obtain ⟨bw, hall⟩ := Qa HF
  obtain ⟨_, _, _, hn1, hn2⟩ := Qa HA
  exact ⟨by rw [Qbz (by omega) (fun q x' y' hx' hy' => hall q x' y' (by have := (List.getElem?_eq_some_iff.1 hx').1; omega) hx' hy')]; rfl, bw⟩
 have hne : ((n1 : Int) != (n2 : Int)) = true := by simp; omega
 go_enter Tryz.func102, Tryz.ntmps102
 go_wp2_with fail
 go_ret
 obtain ⟨_, _, _, hn1, hn2⟩ := Qa HA
 exact ⟨by rw [Qcq (by omega)]; rfl, Below.refl _ _⟩
end
section
open Go.RowKit Go.Maps
def qlLoad (a : Value) : Sem Value := Instr.loadAt 69 a
theorem Qqa (a : Value) : Instr.loadAt 69 a = qlLoad a := rfl
def qlStore (p v : Value) : Sem Unit := Instr.storeAt 69 p v
theorem Qnc (p v : Value) : Instr.storeAt 69 p v = qlStore p v := rfl
theorem Qr : (Tryz.prog.info? 69).map (·.size) = some 16 := by kernel_rfl
theorem Qhw {w : World} {b o : Nat} {c0 c1 c2 c3 c4 c5 c6 c7 c8 c9 c10 c11 c12 c13 c14 c15 : Value} (h : ∀ q c, ([c0, c1, c2, c3, c4, c5, c6, c7, c8, c9, c10, c11, c12, c13, c14, c15] : List Value)[q]? = some c → w.cell? ⟨b, o + q, none⟩ = some c) : (qlLoad (.pointer (some ⟨b, o, none⟩))).run Tryz.prog w = .ok (.agg #[c0, c1, c2, c3, c4, c5, c6, c7, c8, c9, c10, c11, c12, c13, c14, c15]) w :=
 run_loadAt_mid w b o 69 [c0, c1, c2, c3, c4, c5, c6, c7, c8, c9, c10, c11, c12, c13, c14, c15] _ (fun q v hq => h q v hq) Tryz.underlying69 rfl Qr
theorem Quo (w : World) {c0 c1 c2 c3 c4 c5 c6 c7 c8 c9 c10 c11 c12 c13 c14 c15 : Value} (h1 : ∀ c ∈ ([c0, c1, c2, c3, c4, c5, c6, c7, c8, c9, c10, c11, c12, c13, c14, c15] : List Value), c.oneCell' = true) : (qlStore (.pointer (some ⟨w.heap.size, 0, none⟩)) (.agg #[c0, c1, c2, c3, c4, c5, c6, c7, c8, c9, c10, c11, c12, c13, c14, c15])).run Tryz.prog (w.alloc (.cells #[.int .i64 0, .string ⟨#[]⟩, .slice none 0 0, .int .i64 0, .string ⟨#[]⟩, .int .i64 0, .int .i64 0, .string ⟨#[]⟩, .slice none 0 0, .int .i64 0, .int .i64 0, .int .i64 0, .string ⟨#[]⟩, .slice none 0 0, .int .i64 0, .int .i64 0] 69)) = .ok () (w.alloc (.cells #[c0, c1, c2, c3, c4, c5, c6, c7, c8, c9, c10, c11, c12, c13, c14, c15] 69)) :=
 run_storeAt_new w 69 _ _ Qr rfl (by simpa using h1)
theorem Qud {cs : List Value} (h : cs.length = 16) : ∃ c0 c1 c2 c3 c4 c5 c6 c7 c8 c9 c10 c11 c12 c13 c14 c15, cs = [c0, c1, c2, c3, c4, c5, c6, c7, c8, c9, c10, c11, c12, c13, c14, c15] := by
 match cs, h with
 | [c0, c1, c2, c3, c4, c5, c6, c7, c8, c9, c10, c11, c12, c13, c14, c15], _ => exact ⟨c0, c1, c2, c3, c4, c5, c6, c7, c8, c9, c10, c11, c12, c13, c14, c15, rfl⟩
attribute [local go_sem ↓] Qqa Qnc
theorem eqf_l {α : Type} {p : PS α} (hp : PSok p) (hone : ∀ S w cs x, p S w cs x → ∀ c ∈ cs, c.oneCell' = true) {S : Nat → Prop} {w : World} {va vb : Value} {xs ys : List α} (eq : α → α → Bool) (ha : LsAt p 16 S w va xs) (hb : LsAt p 16 S w vb ys)
  (hf : ∀ (j : Nat) (x y : α), xs[j]? = some x → ys[j]? = some y → ∀ w' c0 c1 c2 c3 c4 c5 c6 c7 c8 c9 c10 c11 c12 c13 c14 c15 d0 d1 d2 d3 d4 d5 d6 d7 d8 d9 d10 d11 d12 d13 d14 d15, Below w.heap.size w w' → p S w' [c0, c1, c2, c3, c4, c5, c6, c7, c8, c9, c10, c11, c12, c13, c14, c15] x → p S w' [d0, d1, d2, d3, d4, d5, d6, d7, d8, d9, d10, d11, d12, d13, d14, d15] y → Calls Tryz.prog 78 #[.agg #[c0, c1, c2, c3, c4, c5, c6, c7, c8, c9, c10, c11, c12, c13, c14, c15], .agg #[d0, d1, d2, d3, d4, d5, d6, d7, d8, d9, d10, d11, d12, d13, d14, d15]] w' fun en w2 => en = .returned (.bool (eq x y)) ∧ Below w'.heap.size w' w2) :
  Calls Tryz.prog 77 #[va, vb, .func (.func 78) #[] #[]] w fun en w' => en = .returned (.bool (eqL eq xs ys)) ∧ Below w.heap.size w w' := by
 obtain ⟨a1, p1, e1⟩ := ha.sl
 obtain ⟨a2, p2, e2⟩ := hb.sl
 have hm1 : xs.length ≤ p1 ∧ p1 ≤ maxLen := by
  obtain ⟨_, _, _, e, h1, h2, _⟩ := ha
  rw [e] at e1
  cases e1
  exact ⟨h1, h2⟩
 have hm2 : ys.length ≤ p2 ∧ p2 ≤ maxLen := by
  obtain ⟨_, _, _, e, h1, h2, _⟩ := hb
  rw [e] at e2
  cases e2
  exact ⟨h1, h2⟩
 unfold maxLen at hm1 hm2
 obtain ⟨n1, hn1⟩ : ∃ n, xs.length = n := ⟨_, rfl⟩
 obtain ⟨n2, hn2⟩ : ∃ n, ys.length = n := ⟨_, rfl⟩
 rw [hn1] at e1 hm1
 rw [hn2] at e2 hm2
 obtain ⟨hc1, hc2⟩ := hm1
 obtain ⟨hc3, hc4⟩ := hm2
 have HA := hide (Ya ha (Ya hb (Ya hf (Ya hn1 hn2))))
 have HV := hide (Ya e1 e2)
 rw [e1, e2]
 clear ha hb hf e1 e2 hn1 hn2
 by_cases hlen : n1 = n2
 ·
  subst hlen
  go_enter Tryz.func77, Tryz.ntmps77
  go_wp2_with fail
  go_loopw [17] (fun i wr => ∃ j : Nat, i = .int .i64 (j : Int) ∧ j ≤ n1 ∧ Hid (Below w.heap.size w wr ∧ ∀ q x y, q < j → xs[q]? = some x → ys[q]? = some y → eq x y = true)) (fun i _ => n1 - (intOf i).toNat)
  case atStart => exact ⟨0, rfl, Nat.zero_le _, hide ⟨Below.refl _ _, fun q _ _ hq => absurd hq (Nat.not_lt_zero _)⟩⟩
  obtain ⟨j, rfl, hj, HB⟩ := hrel
  by_cases hlt : j < n1
  ·
   obtain ⟨ha, hb, hf, hn1, hn2⟩ := Qa HA
   obtain ⟨bw, hall⟩ := Qa HB
   obtain ⟨x, hx⟩ : ∃ x, xs[j]? = some x := ⟨xs[j]'(by omega), List.getElem?_eq_getElem _⟩
   obtain ⟨y, hy⟩ : ∃ y, ys[j]? = some y := ⟨ys[j]'(by omega), List.getElem?_eq_getElem _⟩
   obtain ⟨b1, q1, cs1, ev1, hb1, _, hl1, hp1, hc1'⟩ := (ha.later hp bw).elem hx
   obtain ⟨b2, q2, cs2, ev2, hb2, _, hl2, hp2, hc2'⟩ := (hb.later hp bw).elem hy
   obtain ⟨c0, c1, c2, c3, c4, c5, c6, c7, c8, c9, c10, c11, c12, c13, c14, c15, rfl⟩ := Qud hl1
   obtain ⟨d0, d1, d2, d3, d4, d5, d6, d7, d8, d9, d10, d11, d12, d13, d14, d15, rfl⟩ := Qud hl2
   rw [(Qa HV).1, hn1] at ev1
   rw [(Qa HV).2, hn2] at ev2
   simp only [Value.slice.injEq] at ev1 ev2
   obtain ⟨rfl, -, -⟩ := ev1
   obtain ⟨rfl, -, -⟩ := ev2
   have h1 := hone _ _ _ _ hp1
   have h2 := hone _ _ _ _ hp2
   obtain ⟨W1, hW1⟩ : ∃ W1, W1 = wr.alloc (.cells #[c0, c1, c2, c3, c4, c5, c6, c7, c8, c9, c10, c11, c12, c13, c14, c15] 69) := ⟨_, rfl⟩
   obtain ⟨W2, hW2⟩ : ∃ W2, W2 = W1.alloc (.cells #[d0, d1, d2, d3, d4, d5, d6, d7, d8, d9, d10, d11, d12, d13, d14, d15] 69) := ⟨_, rfl⟩
   have s1 : W1.heap.size = wr.heap.size + 1 := by rw [hW1]; simp
   have B1 : Below wr.heap.size wr W1 := by rw [hW1]; exact (Below.refl _ wr).alloc (Nat.le_refl _) _
   have B2 : Below wr.heap.size wr W2 := by rw [hW2]; exact B1.alloc B1.size _
   have m1 : W1.heap[wr.heap.size]? = some (.cells #[c0, c1, c2, c3, c4, c5, c6, c7, c8, c9, c10, c11, c12, c13, c14, c15] 69 (0, 0)) := by rw [hW1]; exact heap_alloc_new wr _
   have m2 : W2.heap[W1.heap.size]? = some (.cells #[d0, d1, d2, d3, d4, d5, d6, d7, d8, d9, d10, d11, d12, d13, d14, d15] 69 (0, 0)) := by rw [hW2]; exact heap_alloc_new W1 _
   have m3 : W2.heap[wr.heap.size]? = some (.cells #[c0, c1, c2, c3, c4, c5, c6, c7, c8, c9, c10, c11, c12, c13, c14, c15] 69 (0, 0)) := by rw [hW2, Below.heap_alloc _ _ _ (by omega)]; exact m1
   have L1 := Qhw (w := wr) (b := b1) (o := j * 16) hc1'
   have N1 := Quo wr h1
   have L2 := Qhw (w := W1) (b := b2) (o := j * 16) (fun q c hq => by rw [B1.cell (p := ⟨b2, _, none⟩) hb2]; exact hc2' q c hq)
   have N2 := Quo W1 h2
   have L3 := Qhw (w := W2) (b := wr.heap.size) (o := 0) (fun q c hq => by rw [Qaa m3, Nat.zero_add]; simpa using hq)
   have L4 := Qhw (w := W2) (b := W1.heap.size) (o := 0) (fun q c hq => by rw [Qaa m2, Nat.zero_add]; simpa using hq)
   have hcl := hf j x y hx hy W2 c0 c1 c2 c3 c4 c5 c6 c7 c8 c9 c10 c11 c12 c13 c14 c15 d0 d1 d2 d3 d4 d5 d6 d7 d8 d9 d10 d11 d12 d13 d14 d15 (bw.trans (B2.mono bw.size)) (hp.same _ _ _ _ _ hp1 B2.size (fun b _ hl => B2.block b hl)) (hp.same _ _ _ _ _ hp2 B2.size (fun b _ hl => B2.block b hl))
   rw [← hW1] at N1
   rw [← hW2] at N2
   obtain ⟨r, hr⟩ : ∃ r, r = eq x y := ⟨_, rfl⟩
   rw [← hr] at hcl
   have HF := hide (Ya hx (Ya hy (Ya hall (Ya (bw.trans (B2.mono bw.size)) hr))))
   clear ha hb hf bw hall hx hy hc1' hc2' hp1 hp2 hl1 hl2 h1 h2 hW1 hW2 s1 B1 B2 m1 m2 m3 hn1 hn2 HA HV hb1 hb2 hr HB
   cases r
   ·
    go_wp2_with fail
    refine hcl.mono ?_
    clear hcl
    rintro en w4 ⟨rfl, b4⟩
    have B4 := hide b4
    clear b4 L1 N1 L2 N2 L3 L4
    go_wp2_with fail
    go_ret
    obtain ⟨hx, hy, hall, bw, hr⟩ := Qa HF
    exact ⟨by rw [Qbd hx hy hr.symm]; rfl, bw.trans ((Qa B4).mono bw.size)⟩
   go_wp2_with fail
   refine hcl.mono ?_
   clear hcl
   rintro en w4 ⟨rfl, b4⟩
   have B4 := hide b4
   clear b4 L1 N1 L2 N2 L3 L4
   go_wp2_with fail
   go_roundw
   case rel =>
    obtain ⟨hx, hy, hall, bw, hr⟩ := Qa HF
    refine ⟨j + 1, by go_num, by omega, hide ⟨bw.trans ((Qa B4).mono bw.size), fun q x' y' hq hx' hy' => ?_⟩⟩
    by_cases e : q = j
    ·
     subst e
     rw [hx] at hx'
     rw [hy] at hy'
     cases hx'
     cases hy'
     exact hr.symm
    · exact hall q x' y' (by omega) hx' hy'
   case measure => simp [intOf]; omega
  obtain ⟨bw, hall⟩ := Qa HB
  have HF := hide (Ya bw hall)
  clear bw hall HB
  go_wp2_with fail
  go_ret
  obtain ⟨bw, hall⟩ := Qa HF
  obtain ⟨_, _, _, hn1, hn2⟩ := Qa HA
  exact ⟨by rw [Qbz (by omega) (fun q x' y' hx' hy' => hall q x' y' (by have := (List.getElem?_eq_some_iff.1 hx').1; omega) hx' hy')]; rfl, bw⟩
 have hne : ((n1 : Int) != (n2 : Int)) = true := by simp; omega
 go_enter Tryz.func77, Tryz.ntmps77
 go_wp2_with fail
 go_ret
 obtain ⟨_, _, _, hn1, hn2⟩ := Qa HA
 exact ⟨by rw [Qcq (by omega)]; rfl, Below.refl _ _⟩
end
section
open Go.RowKit Go.Maps
def qcLoad (a : Value) : Sem Value := Instr.loadAt 119 a
theorem Qpx (a : Value) : Instr.loadAt 119 a = qcLoad a := rfl
def qcStore (p v : Value) : Sem Unit := Instr.storeAt 119 p v
theorem Qmz (p v : Value) : Instr.storeAt 119 p v = qcStore p v := rfl
theorem Qqw : (Tryz.prog.info? 119).map (·.size) = some 2 := by kernel_rfl
theorem Qhs {w : World} {b o : Nat} {c0 c1 : Value} (h : ∀ q c, ([c0, c1] : List Value)[q]? = some c → w.cell? ⟨b, o + q, none⟩ = some c) : (qcLoad (.pointer (some ⟨b, o, none⟩))).run Tryz.prog w = .ok (.agg #[c0, c1]) w :=
 run_loadAt_mid w b o 119 [c0, c1] _ (fun q v hq => h q v hq) Tryz.underlying119 rfl Qqw
theorem Quk (w : World) {c0 c1 : Value} (h1 : ∀ c ∈ ([c0, c1] : List Value), c.oneCell' = true) : (qcStore (.pointer (some ⟨w.heap.size, 0, none⟩)) (.agg #[c0, c1])).run Tryz.prog (w.alloc (.cells #[.string ⟨#[]⟩, .slice none 0 0] 119)) = .ok () (w.alloc (.cells #[c0, c1] 119)) :=
 run_storeAt_new w 119 _ _ Qqw rfl (by simpa using h1)
theorem Qu {cs : List Value} (h : cs.length = 2) : ∃ c0 c1, cs = [c0, c1] := by
 match cs, h with
 | [c0, c1], _ => exact ⟨c0, c1, rfl⟩
attribute [local go_sem ↓] Qpx Qmz
theorem eqf_c {α : Type} {p : PS α} (hp : PSok p) (hone : ∀ S w cs x, p S w cs x → ∀ c ∈ cs, c.oneCell' = true) {S : Nat → Prop} {w : World} {va vb : Value} {xs ys : List α} (eq : α → α → Bool) (ha : LsAt p 2 S w va xs) (hb : LsAt p 2 S w vb ys)
  (hf : ∀ (j : Nat) (x y : α), xs[j]? = some x → ys[j]? = some y → ∀ w' c0 c1 d0 d1, Below w.heap.size w w' → p S w' [c0, c1] x → p S w' [d0, d1] y → Calls Tryz.prog 73 #[.agg #[c0, c1], .agg #[d0, d1]] w' fun en w2 => en = .returned (.bool (eq x y)) ∧ Below w'.heap.size w' w2) :
  Calls Tryz.prog 72 #[va, vb, .func (.func 73) #[] #[]] w fun en w' => en = .returned (.bool (eqL eq xs ys)) ∧ Below w.heap.size w w' := by
 obtain ⟨a1, p1, e1⟩ := ha.sl
 obtain ⟨a2, p2, e2⟩ := hb.sl
 have hm1 : xs.length ≤ p1 ∧ p1 ≤ maxLen := by
  obtain ⟨_, _, _, e, h1, h2, _⟩ := ha
  rw [e] at e1
  cases e1
  exact ⟨h1, h2⟩
 have hm2 : ys.length ≤ p2 ∧ p2 ≤ maxLen := by
  obtain ⟨_, _, _, e, h1, h2, _⟩ := hb
  rw [e] at e2
  cases e2
  exact ⟨h1, h2⟩
 unfold maxLen at hm1 hm2
 obtain ⟨n1, hn1⟩ : ∃ n, xs.length = n := ⟨_, rfl⟩
 obtain ⟨n2, hn2⟩ : ∃ n, ys.length = n := ⟨_, rfl⟩
 rw [hn1] at e1 hm1
 rw [hn2] at e2 hm2
 obtain ⟨hc1, hc2⟩ := hm1
 obtain ⟨hc3, hc4⟩ := hm2
 have HA := hide (Ya ha (Ya hb (Ya hf (Ya hn1 hn2))))
 have HV := hide (Ya e1 e2)
 rw [e1, e2]
 clear ha hb hf e1 e2 hn1 hn2
 by_cases hlen : n1 = n2
 ·
  subst hlen
  go_enter Tryz.func72, Tryz.ntmps72
  go_wp2_with fail
  go_loopw [17] (fun i wr => ∃ j : Nat, i = .int .i64 (j : Int) ∧ j ≤ n1 ∧ Hid (Below w.heap.size w wr ∧ ∀ q x y, q < j → xs[q]? = some x → ys[q]? = some y → eq x y = true)) (fun i _ => n1 - (intOf i).toNat)
  case atStart => exact ⟨0, rfl, Nat.zero_le _, hide ⟨Below.refl _ _, fun q _ _ hq => absurd hq (Nat.not_lt_zero _)⟩⟩
  obtain ⟨j, rfl, hj, HB⟩ := hrel
  by_cases hlt : j < n1
  ·
   obtain ⟨ha, hb, hf, hn1, hn2⟩ := Qa HA
   obtain ⟨bw, hall⟩ := Qa HB
   obtain ⟨x, hx⟩ : ∃ x, xs[j]? = some x := ⟨xs[j]'(by omega), List.getElem?_eq_getElem _⟩
   obtain ⟨y, hy⟩ : ∃ y, ys[j]? = some y := ⟨ys[j]'(by omega), List.getElem?_eq_getElem _⟩
   obtain ⟨b1, q1, cs1, ev1, hb1, _, hl1, hp1, hc1'⟩ := (ha.later hp bw).elem hx
   obtain ⟨b2, q2, cs2, ev2, hb2, _, hl2, hp2, hc2'⟩ := (hb.later hp bw).elem hy
   obtain ⟨c0, c1, rfl⟩ := Qu hl1
   obtain ⟨d0, d1, rfl⟩ := Qu hl2
   rw [(Qa HV).1, hn1] at ev1
   rw [(Qa HV).2, hn2] at ev2
   simp only [Value.slice.injEq] at ev1 ev2
   obtain ⟨rfl, -, -⟩ := ev1
   obtain ⟨rfl, -, -⟩ := ev2
   have h1 := hone _ _ _ _ hp1
   have h2 := hone _ _ _ _ hp2
   obtain ⟨W1, hW1⟩ : ∃ W1, W1 = wr.alloc (.cells #[c0, c1] 119) := ⟨_, rfl⟩
   obtain ⟨W2, hW2⟩ : ∃ W2, W2 = W1.alloc (.cells #[d0, d1] 119) := ⟨_, rfl⟩
   have s1 : W1.heap.size = wr.heap.size + 1 := by rw [hW1]; simp
   have B1 : Below wr.heap.size wr W1 := by rw [hW1]; exact (Below.refl _ wr).alloc (Nat.le_refl _) _
   have B2 : Below wr.heap.size wr W2 := by rw [hW2]; exact B1.alloc B1.size _
   have m1 : W1.heap[wr.heap.size]? = some (.cells #[c0, c1] 119 (0, 0)) := by rw [hW1]; exact heap_alloc_new wr _
   have m2 : W2.heap[W1.heap.size]? = some (.cells #[d0, d1] 119 (0, 0)) := by rw [hW2]; exact heap_alloc_new W1 _
   have m3 : W2.heap[wr.heap.size]? = some (.cells #[c0, c1] 119 (0, 0)) := by rw [hW2, Below.heap_alloc _ _ _ (by omega)]; exact m1
   have L1 := Qhs (w := wr) (b := b1) (o := j * 2) hc1'
   have N1 := Quk wr h1
   have L2 := Qhs (w := W1) (b := b2) (o := j * 2) (fun q c hq => by rw [B1.cell (p := ⟨b2, _, none⟩) hb2]; exact hc2' q c hq)
   have N2 := Quk W1 h2
   have L3 := Qhs (w := W2) (b := wr.heap.size) (o := 0) (fun q c hq => by rw [Qaa m3, Nat.zero_add]; simpa using hq)
   have L4 := Qhs (w := W2) (b := W1.heap.size) (o := 0) (fun q c hq => by rw [Qaa m2, Nat.zero_add]; simpa using hq)
   have hcl := hf j x y hx hy W2 c0 c1 d0 d1 (bw.trans (B2.mono bw.size)) (hp.same _ _ _ _ _ hp1 B2.size (fun b _ hl => B2.block b hl)) (hp.same _ _ _ _ _ hp2 B2.size (fun b _ hl => B2.block b hl))
   rw [← hW1] at N1
   rw [← hW2] at N2
   obtain ⟨r, hr⟩ : ∃ r, r = eq x y := ⟨_, rfl⟩
   rw [← hr] at hcl
   have HF := hide (Ya hx (Ya hy (Ya hall (Ya (bw.trans (B2.mono bw.size)) hr))))
   clear ha hb hf bw hall hx hy hc1' hc2' hp1 hp2 hl1 hl2 h1 h2 hW1 hW2 s1 B1 B2 m1 m2 m3 hn1 hn2 HA HV hb1 hb2 hr HB
   cases r
   ·
    go_wp2_with fail
    refine hcl.mono ?_
    clear hcl
    rintro en w4 ⟨rfl, b4⟩
    have B4 := hide b4
    clear b4 L1 N1 L2 N2 L3 L4
    go_wp2_with fail
    go_ret
    obtain ⟨hx, hy, hall, bw, hr⟩ := Qa HF
    exact ⟨by rw [Qbd hx hy hr.symm]; rfl, bw.trans ((Qa B4).mono bw.size)⟩
   go_wp2_with fail
   refine hcl.mono ?_
   clear hcl
   rintro en w4 ⟨rfl, b4⟩
   have B4 := hide b4
   clear b4 L1 N1 L2 N2 L3 L4
   go_wp2_with fail
   go_roundw
   case rel =>
    obtain ⟨hx, hy, hall, bw, hr⟩ := Qa HF
    refine ⟨j + 1, by go_num, by omega, hide ⟨bw.trans ((Qa B4).mono bw.size), fun q x' y' hq hx' hy' => ?_⟩⟩
    by_cases e : q = j
    ·
     subst e
     rw [hx] at hx'
     rw [hy] at hy'
     cases hx'
     cases hy'
     exact hr.symm
    · exact hall q x' y' (by omega) hx' hy'
   case measure => simp [intOf]; omega
  obtain ⟨bw, hall⟩ := Qa HB
  have HF := hide (Ya bw hall)
  clear bw hall HB
  go_wp2_with fail
  go_ret
  obtain ⟨bw, hall⟩ := Qa HF
  obtain ⟨_, _, _, hn1, hn2⟩ := Qa HA
  exact ⟨by rw [Qbz (by omega) (fun q x' y' hx' hy' => hall q x' y' (by have := (List.getElem?_eq_some_iff.1 hx').1; omega) hx' hy')]; rfl, bw⟩
 have hne : ((n1 : Int) != (n2 : Int)) = true := by simp; omega
 go_enter Tryz.func72, Tryz.ntmps72
 go_wp2_with fail
 go_ret
 obtain ⟨_, _, _, hn1, hn2⟩ := Qa HA
 exact ⟨by rw [Qcq (by omega)]; rfl, Below.refl _ _⟩
end
end Go.Proofs.YtccehgfecaamoaaGreatDoor
