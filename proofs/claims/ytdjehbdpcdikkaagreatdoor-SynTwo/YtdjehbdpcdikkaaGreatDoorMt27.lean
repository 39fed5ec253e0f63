/- slices.EqualFunc at Decl. slices.EqualFunc at Comp. slices.EqualFunc at Init. slices.EqualFunc at Clause. syn: sameExprs, as a chain. syn: sameAtoms, as a chain. -/
import Derived.Test.YtdjehbdpcdikkaaGreatDoorMt25
namespace Go.Proofs.YtdjehbdpcdikkaaGreatDoor
open Go.RowKit Go.Maps

def qdLoad (a : Value) : Sem Value := Instr.loadAt 66 a
theorem loadAt_qd (a : Value) : Instr.loadAt 66 a = qdLoad a := rfl
def qdStore (p v : Value) : Sem Unit := Instr.storeAt 66 p v
theorem storeAt_qd (p v : Value) : Instr.storeAt 66 p v = qdStore p v := rfl
theorem size_qd : (Tryz.prog.info? 66).map (·.size) = some 5 := by kernel_rfl
theorem qd_load {w : World} {b o : Nat} {c0 c1 c2 c3 c4 : Value} (h : ∀ q c, ([c0, c1, c2, c3, c4] : List Value)[q]? = some c → w.cell? ⟨b, o + q, none⟩ = some c) : (qdLoad (.pointer (some ⟨b, o, none⟩))).run Tryz.prog w = .ok (.agg #[c0, c1, c2, c3, c4]) w :=
 run_loadAt_mid w b o 66 [c0, c1, c2, c3, c4] _ (fun q v hq => h q v hq) Tryz.underlying66 rfl size_qd
theorem qd_new (w : World) {c0 c1 c2 c3 c4 : Value} (h1 : ∀ c ∈ ([c0, c1, c2, c3, c4] : List Value), c.oneCell' = true) : (qdStore (.pointer (some ⟨w.heap.size, 0, none⟩)) (.agg #[c0, c1, c2, c3, c4])).run Tryz.prog (w.alloc (.cells #[.string ⟨#[]⟩, .slice none 0 0, .bool false, .bool false, .int .i64 0] 66)) = .ok () (w.alloc (.cells #[c0, c1, c2, c3, c4] 66)) :=
 run_storeAt_new w 66 _ _ size_qd rfl (by simpa using h1)
theorem len_qd {cs : List Value} (h : cs.length = 5) : ∃ c0 c1 c2 c3 c4, cs = [c0, c1, c2, c3, c4] := by
 match cs, h with
 | [c0, c1, c2, c3, c4], _ => exact ⟨c0, c1, c2, c3, c4, rfl⟩
attribute [local go_sem ↓] loadAt_qd storeAt_qd
set_option maxRecDepth 100000 in
set_option maxHeartbeats 8000000 in
theorem eqf_d {α : Type} {p : PS α} (hp : PSok p) (hone : ∀ S w cs x, p S w cs x → ∀ c ∈ cs, c.oneCell' = true) {S : Nat → Prop} {w : World} {va vb : Value} {xs ys : List α} (eq : α → α → Bool) (ha : LsAt p 5 S w va xs) (hb : LsAt p 5 S w vb ys)
  (hf : ∀ (j : Nat) (x y : α), xs[j]? = some x → ys[j]? = some y → ∀ w' c0 c1 c2 c3 c4 d0 d1 d2 d3 d4, Below w.heap.size w w' → p S w' [c0, c1, c2, c3, c4] x → p S w' [d0, d1, d2, d3, d4] y → Calls Tryz.prog 26 #[.agg #[c0, c1, c2, c3, c4], .agg #[d0, d1, d2, d3, d4]] w' fun en w2 => en = .returned (.bool (eq x y)) ∧ Below w'.heap.size w' w2) :
  Calls Tryz.prog 25 #[va, vb, .func (.func 26) #[] #[]] w fun en w' => en = .returned (.bool (eqL eq xs ys)) ∧ Below w.heap.size w w' := by
 obtain ⟨a1, p1, e1⟩ := ha.sl
 obtain ⟨a2, p2, e2⟩ := hb.sl
 have hm1 : xs.length ≤ p1 ∧ p1 ≤ maxLen := by
  obtain ⟨_, _, _, e, h1, h2, _⟩ := ha
  rw [e] at e1
  cases e1
  exact ⟨h1, h2⟩
 have hm2 : ys.length ≤ p2 ∧ p2 ≤ maxLen := by
  obtain ⟨_, _, _, e, h1, h2, _⟩ := hb
  rw [e] at e2
  cases e2
  exact ⟨h1, h2⟩
 unfold maxLen at hm1 hm2
 obtain ⟨n1, hn1⟩ : ∃ n, xs.length = n := ⟨_, rfl⟩
 obtain ⟨n2, hn2⟩ : ∃ n, ys.length = n := ⟨_, rfl⟩
 rw [hn1] at e1 hm1
 rw [hn2] at e2 hm2
 obtain ⟨hc1, hc2⟩ := hm1
 obtain ⟨hc3, hc4⟩ := hm2
 have HA := hide (And.intro ha (And.intro hb (And.intro hf (And.intro hn1 hn2))))
 have HV := hide (And.intro e1 e2)
 rw [e1, e2]
 clear ha hb hf e1 e2 hn1 hn2
 by_cases hlen : n1 = n2
 ·
  subst hlen
  go_enter Tryz.func25, Tryz.ntmps25
  go_wp2_with fail
  go_loopw [17] (fun i wr => ∃ j : Nat, i = .int .i64 (j : Int) ∧ j ≤ n1 ∧ Hid (Below w.heap.size w wr ∧ ∀ q x y, q < j → xs[q]? = some x → ys[q]? = some y → eq x y = true)) (fun i _ => n1 - (intOf i).toNat)
  case atStart => exact ⟨0, rfl, Nat.zero_le _, hide ⟨Below.refl _ _, fun q _ _ hq => absurd hq (Nat.not_lt_zero _)⟩⟩
  case round =>
   obtain ⟨j, rfl, hj, HB⟩ := hrel
   by_cases hlt : j < n1
   ·
    obtain ⟨ha, hb, hf, hn1, hn2⟩ := unhide HA
    obtain ⟨bw, hall⟩ := unhide HB
    obtain ⟨x, hx⟩ : ∃ x, xs[j]? = some x := ⟨xs[j]'(by omega), List.getElem?_eq_getElem _⟩
    obtain ⟨y, hy⟩ : ∃ y, ys[j]? = some y := ⟨ys[j]'(by omega), List.getElem?_eq_getElem _⟩
    obtain ⟨b1, q1, cs1, ev1, hb1, _, hl1, hp1, hc1'⟩ := (ha.later hp bw).elem hx
    obtain ⟨b2, q2, cs2, ev2, hb2, _, hl2, hp2, hc2'⟩ := (hb.later hp bw).elem hy
    obtain ⟨c0, c1, c2, c3, c4, rfl⟩ := len_qd hl1
    obtain ⟨d0, d1, d2, d3, d4, rfl⟩ := len_qd hl2
    rw [(unhide HV).1, hn1] at ev1
    rw [(unhide HV).2, hn2] at ev2
    simp only [Value.slice.injEq] at ev1 ev2
    obtain ⟨rfl, -, -⟩ := ev1
    obtain ⟨rfl, -, -⟩ := ev2
    have h1 := hone _ _ _ _ hp1
    have h2 := hone _ _ _ _ hp2
    obtain ⟨W1, hW1⟩ : ∃ W1, W1 = wr.alloc (.cells #[c0, c1, c2, c3, c4] 66) := ⟨_, rfl⟩
    obtain ⟨W2, hW2⟩ : ∃ W2, W2 = W1.alloc (.cells #[d0, d1, d2, d3, d4] 66) := ⟨_, rfl⟩
    have s1 : W1.heap.size = wr.heap.size + 1 := by rw [hW1]; simp
    have B1 : Below wr.heap.size wr W1 := by rw [hW1]; exact (Below.refl _ wr).alloc (Nat.le_refl _) _
    have B2 : Below wr.heap.size wr W2 := by rw [hW2]; exact B1.alloc B1.size _
    have m1 : W1.heap[wr.heap.size]? = some (.cells #[c0, c1, c2, c3, c4] 66 (0, 0)) := by rw [hW1]; exact heap_alloc_new wr _
    have m2 : W2.heap[W1.heap.size]? = some (.cells #[d0, d1, d2, d3, d4] 66 (0, 0)) := by rw [hW2]; exact heap_alloc_new W1 _
    have m3 : W2.heap[wr.heap.size]? = some (.cells #[c0, c1, c2, c3, c4] 66 (0, 0)) := by rw [hW2, Below.heap_alloc _ _ _ (by omega)]; exact m1
    have L1 := qd_load (w := wr) (b := b1) (o := j * 5) hc1'
    have N1 := qd_new wr h1
    have L2 := qd_load (w := W1) (b := b2) (o := j * 5) (fun q c hq => by rw [B1.cell (p := ⟨b2, _, none⟩) hb2]; exact hc2' q c hq)
    have N2 := qd_new W1 h2
    have L3 := qd_load (w := W2) (b := wr.heap.size) (o := 0) (fun q c hq => by rw [cell_hp m3, Nat.zero_add]; simpa using hq)
    have L4 := qd_load (w := W2) (b := W1.heap.size) (o := 0) (fun q c hq => by rw [cell_hp m2, Nat.zero_add]; simpa using hq)
    have hcl := hf j x y hx hy W2 c0 c1 c2 c3 c4 d0 d1 d2 d3 d4 (bw.trans (B2.mono bw.size)) (hp.same _ _ _ _ _ hp1 B2.size (fun b _ hl => B2.block b hl)) (hp.same _ _ _ _ _ hp2 B2.size (fun b _ hl => B2.block b hl))
    rw [← hW1] at N1
    rw [← hW2] at N2
    obtain ⟨r, hr⟩ : ∃ r, r = eq x y := ⟨_, rfl⟩
    rw [← hr] at hcl
    have HF := hide (And.intro hx (And.intro hy (And.intro hall (And.intro (bw.trans (B2.mono bw.size)) hr))))
    clear ha hb hf bw hall hx hy hc1' hc2' hp1 hp2 hl1 hl2 h1 h2 hW1 hW2 s1 B1 B2 m1 m2 m3 hn1 hn2 HA HV hb1 hb2 hr HB
    cases r with
    | true =>
     go_wp2_with fail
     refine hcl.mono ?_
     clear hcl
     rintro en w4 ⟨rfl, b4⟩
     have B4 := hide b4
     clear b4 L1 N1 L2 N2 L3 L4
     go_wp2_with fail
     go_roundw
     case rel =>
      obtain ⟨hx, hy, hall, bw, hr⟩ := unhide HF
      refine ⟨j + 1, by go_num, by omega, hide ⟨bw.trans ((unhide B4).mono bw.size), fun q x' y' hq hx' hy' => ?_⟩⟩
      by_cases e : q = j
      ·
       subst e
       rw [hx] at hx'
       rw [hy] at hy'
       cases hx'
       cases hy'
       exact hr.symm
      · exact hall q x' y' (by omega) hx' hy'
     case measure => simp [intOf]; omega
    | false =>
     go_wp2_with fail
     refine hcl.mono ?_
     clear hcl
     rintro en w4 ⟨rfl, b4⟩
     have B4 := hide b4
     clear b4 L1 N1 L2 N2 L3 L4
     go_wp2_with fail
     go_ret
     obtain ⟨hx, hy, hall, bw, hr⟩ := unhide HF
     exact ⟨by rw [eqL_false hx hy hr.symm]; rfl, bw.trans ((unhide B4).mono bw.size)⟩
   ·
    obtain ⟨bw, hall⟩ := unhide HB
    have HF := hide (And.intro bw hall)
    clear bw hall HB
    go_wp2_with fail
    go_ret
    obtain ⟨bw, hall⟩ := unhide HF
    obtain ⟨_, _, _, hn1, hn2⟩ := unhide HA
    exact ⟨by rw [eqL_true (by omega) (fun q x' y' hx' hy' => hall q x' y' (by have := (List.getElem?_eq_some_iff.1 hx').1; omega) hx' hy')]; rfl, bw⟩
 ·
  have hne : ((n1 : Int) != (n2 : Int)) = true := by simp; omega
  go_enter Tryz.func25, Tryz.ntmps25
  go_wp2_with fail
  go_ret
  obtain ⟨_, _, _, hn1, hn2⟩ := unhide HA
  exact ⟨by rw [eqL_len (by omega)]; rfl, Below.refl _ _⟩
end Go.Proofs.YtdjehbdpcdikkaaGreatDoor

namespace Go.Proofs.YtdjehbdpcdikkaaGreatDoor
open Go.RowKit Go.Maps

def qpLoad (a : Value) : Sem Value := Instr.loadAt 70 a
theorem loadAt_qp (a : Value) : Instr.loadAt 70 a = qpLoad a := rfl
def qpStore (p v : Value) : Sem Unit := Instr.storeAt 70 p v
theorem storeAt_qp (p v : Value) : Instr.storeAt 70 p v = qpStore p v := rfl
theorem size_qp : (Tryz.prog.info? 70).map (·.size) = some 8 := by kernel_rfl
theorem qp_load {w : World} {b o : Nat} {c0 c1 c2 c3 c4 c5 c6 c7 : Value} (h : ∀ q c, ([c0, c1, c2, c3, c4, c5, c6, c7] : List Value)[q]? = some c → w.cell? ⟨b, o + q, none⟩ = some c) : (qpLoad (.pointer (some ⟨b, o, none⟩))).run Tryz.prog w = .ok (.agg #[c0, c1, c2, c3, c4, c5, c6, c7]) w :=
 run_loadAt_mid w b o 70 [c0, c1, c2, c3, c4, c5, c6, c7] _ (fun q v hq => h q v hq) Tryz.underlying70 rfl size_qp
theorem qp_new (w : World) {c0 c1 c2 c3 c4 c5 c6 c7 : Value} (h1 : ∀ c ∈ ([c0, c1, c2, c3, c4, c5, c6, c7] : List Value), c.oneCell' = true) : (qpStore (.pointer (some ⟨w.heap.size, 0, none⟩)) (.agg #[c0, c1, c2, c3, c4, c5, c6, c7])).run Tryz.prog (w.alloc (.cells #[.string ⟨#[]⟩, .slice none 0 0, .slice none 0 0, .slice none 0 0, .slice none 0 0, .slice none 0 0, .slice none 0 0, .int .i64 0] 70)) = .ok () (w.alloc (.cells #[c0, c1, c2, c3, c4, c5, c6, c7] 70)) :=
 run_storeAt_new w 70 _ _ size_qp rfl (by simpa using h1)
theorem len_qp {cs : List Value} (h : cs.length = 8) : ∃ c0 c1 c2 c3 c4 c5 c6 c7, cs = [c0, c1, c2, c3, c4, c5, c6, c7] := by
 match cs, h with
 | [c0, c1, c2, c3, c4, c5, c6, c7], _ => exact ⟨c0, c1, c2, c3, c4, c5, c6, c7, rfl⟩
attribute [local go_sem ↓] loadAt_qp storeAt_qp
set_option maxRecDepth 100000 in
set_option maxHeartbeats 8000000 in
theorem eqf_p {α : Type} {p : PS α} (hp : PSok p) (hone : ∀ S w cs x, p S w cs x → ∀ c ∈ cs, c.oneCell' = true) {S : Nat → Prop} {w : World} {va vb : Value} {xs ys : List α} (eq : α → α → Bool) (ha : LsAt p 8 S w va xs) (hb : LsAt p 8 S w vb ys)
  (hf : ∀ (j : Nat) (x y : α), xs[j]? = some x → ys[j]? = some y → ∀ w' c0 c1 c2 c3 c4 c5 c6 c7 d0 d1 d2 d3 d4 d5 d6 d7, Below w.heap.size w w' → p S w' [c0, c1, c2, c3, c4, c5, c6, c7] x → p S w' [d0, d1, d2, d3, d4, d5, d6, d7] y → Calls Tryz.prog 28 #[.agg #[c0, c1, c2, c3, c4, c5, c6, c7], .agg #[d0, d1, d2, d3, d4, d5, d6, d7]] w' fun en w2 => en = .returned (.bool (eq x y)) ∧ Below w'.heap.size w' w2) :
  Calls Tryz.prog 27 #[va, vb, .func (.func 28) #[] #[]] w fun en w' => en = .returned (.bool (eqL eq xs ys)) ∧ Below w.heap.size w w' := by
 obtain ⟨a1, p1, e1⟩ := ha.sl
 obtain ⟨a2, p2, e2⟩ := hb.sl
 have hm1 : xs.length ≤ p1 ∧ p1 ≤ maxLen := by
  obtain ⟨_, _, _, e, h1, h2, _⟩ := ha
  rw [e] at e1
  cases e1
  exact ⟨h1, h2⟩
 have hm2 : ys.length ≤ p2 ∧ p2 ≤ maxLen := by
  obtain ⟨_, _, _, e, h1, h2, _⟩ := hb
  rw [e] at e2
  cases e2
  exact ⟨h1, h2⟩
 unfold maxLen at hm1 hm2
 obtain ⟨n1, hn1⟩ : ∃ n, xs.length = n := ⟨_, rfl⟩
 obtain ⟨n2, hn2⟩ : ∃ n, ys.length = n := ⟨_, rfl⟩
 rw [hn1] at e1 hm1
 rw [hn2] at e2 hm2
 obtain ⟨hc1, hc2⟩ := hm1
 obtain ⟨hc3, hc4⟩ := hm2
 have HA := hide (And.intro ha (And.intro hb (And.intro hf (And.intro hn1 hn2))))
 have HV := hide (And.intro e1 e2)
 rw [e1, e2]
 clear ha hb hf e1 e2 hn1 hn2
 by_cases hlen : n1 = n2
 ·
  subst hlen
  go_enter Tryz.func27, Tryz.ntmps27
  go_wp2_with fail
  go_loopw [17] (fun i wr => ∃ j : Nat, i = .int .i64 (j : Int) ∧ j ≤ n1 ∧ Hid (Below w.heap.size w wr ∧ ∀ q x y, q < j → xs[q]? = some x → ys[q]? = some y → eq x y = true)) (fun i _ => n1 - (intOf i).toNat)
  case atStart => exact ⟨0, rfl, Nat.zero_le _, hide ⟨Below.refl _ _, fun q _ _ hq => absurd hq (Nat.not_lt_zero _)⟩⟩
  case round =>
   obtain ⟨j, rfl, hj, HB⟩ := hrel
   by_cases hlt : j < n1
   ·
    obtain ⟨ha, hb, hf, hn1, hn2⟩ := unhide HA
    obtain ⟨bw, hall⟩ := unhide HB
    obtain ⟨x, hx⟩ : ∃ x, xs[j]? = some x := ⟨xs[j]'(by omega), List.getElem?_eq_getElem _⟩
    obtain ⟨y, hy⟩ : ∃ y, ys[j]? = some y := ⟨ys[j]'(by omega), List.getElem?_eq_getElem _⟩
    obtain ⟨b1, q1, cs1, ev1, hb1, _, hl1, hp1, hc1'⟩ := (ha.later hp bw).elem hx
    obtain ⟨b2, q2, cs2, ev2, hb2, _, hl2, hp2, hc2'⟩ := (hb.later hp bw).elem hy
    obtain ⟨c0, c1, c2, c3, c4, c5, c6, c7, rfl⟩ := len_qp hl1
    obtain ⟨d0, d1, d2, d3, d4, d5, d6, d7, rfl⟩ := len_qp hl2
    rw [(unhide HV).1, hn1] at ev1
    rw [(unhide HV).2, hn2] at ev2
    simp only [Value.slice.injEq] at ev1 ev2
    obtain ⟨rfl, -, -⟩ := ev1
    obtain ⟨rfl, -, -⟩ := ev2
    have h1 := hone _ _ _ _ hp1
    have h2 := hone _ _ _ _ hp2
    obtain ⟨W1, hW1⟩ : ∃ W1, W1 = wr.alloc (.cells #[c0, c1, c2, c3, c4, c5, c6, c7] 70) := ⟨_, rfl⟩
    obtain ⟨W2, hW2⟩ : ∃ W2, W2 = W1.alloc (.cells #[d0, d1, d2, d3, d4, d5, d6, d7] 70) := ⟨_, rfl⟩
    have s1 : W1.heap.size = wr.heap.size + 1 := by rw [hW1]; simp
    have B1 : Below wr.heap.size wr W1 := by rw [hW1]; exact (Below.refl _ wr).alloc (Nat.le_refl _) _
    have B2 : Below wr.heap.size wr W2 := by rw [hW2]; exact B1.alloc B1.size _
    have m1 : W1.heap[wr.heap.size]? = some (.cells #[c0, c1, c2, c3, c4, c5, c6, c7] 70 (0, 0)) := by rw [hW1]; exact heap_alloc_new wr _
    have m2 : W2.heap[W1.heap.size]? = some (.cells #[d0, d1, d2, d3, d4, d5, d6, d7] 70 (0, 0)) := by rw [hW2]; exact heap_alloc_new W1 _
    have m3 : W2.heap[wr.heap.size]? = some (.cells #[c0, c1, c2, c3, c4, c5, c6, c7] 70 (0, 0)) := by rw [hW2, Below.heap_alloc _ _ _ (by omega)]; exact m1
    have L1 := qp_load (w := wr) (b := b1) (o := j * 8) hc1'
    have N1 := qp_new wr h1
    have L2 := qp_load (w := W1) (b := b2) (o := j * 8) (fun q c hq => by rw [B1.cell (p := ⟨b2, _, none⟩) hb2]; exact hc2' q c hq)
    have N2 := qp_new W1 h2
    have L3 := qp_load (w := W2) (b := wr.heap.size) (o := 0) (fun q c hq => by rw [cell_hp m3, Nat.zero_add]; simpa using hq)
    have L4 := qp_load (w := W2) (b := W1.heap.size) (o := 0) (fun q c hq => by rw [cell_hp m2, Nat.zero_add]; simpa using hq)
    have hcl := hf j x y hx hy W2 c0 c1 c2 c3 c4 c5 c6 c7 d0 d1 d2 d3 d4 d5 d6 d7 (bw.trans (B2.mono bw.size)) (hp.same _ _ _ _ _ hp1 B2.size (fun b _ hl => B2.block b hl)) (hp.same _ _ _ _ _ hp2 B2.size (fun b _ hl => B2.block b hl))
    rw [← hW1] at N1
    rw [← hW2] at N2
    obtain ⟨r, hr⟩ : ∃ r, r = eq x y := ⟨_, rfl⟩
    rw [← hr] at hcl
    have HF := hide (And.intro hx (And.intro hy (And.intro hall (And.intro (bw.trans (B2.mono bw.size)) hr))))
    clear ha hb hf bw hall hx hy hc1' hc2' hp1 hp2 hl1 hl2 h1 h2 hW1 hW2 s1 B1 B2 m1 m2 m3 hn1 hn2 HA HV hb1 hb2 hr HB
    cases r with
    | true =>
     go_wp2_with fail
     refine hcl.mono ?_
     clear hcl
     rintro en w4 ⟨rfl, b4⟩
     have B4 := hide b4
     clear b4 L1 N1 L2 N2 L3 L4
     go_wp2_with fail
     go_roundw
     case rel =>
      obtain ⟨hx, hy, hall, bw, hr⟩ := unhide HF
      refine ⟨j + 1, by go_num, by omega, hide ⟨bw.trans ((unhide B4).mono bw.size), fun q x' y' hq hx' hy' => ?_⟩⟩
      by_cases e : q = j
      ·
       subst e
       rw [hx] at hx'
       rw [hy] at hy'
       cases hx'
       cases hy'
       exact hr.symm
      · exact hall q x' y' (by omega) hx' hy'
     case measure => simp [intOf]; omega
    | false =>
     go_wp2_with fail
     refine hcl.mono ?_
     clear hcl
     rintro en w4 ⟨rfl, b4⟩
     have B4 := hide b4
     clear b4 L1 N1 L2 N2 L3 L4
     go_wp2_with fail
     go_ret
     obtain ⟨hx, hy, hall, bw, hr⟩ := unhide HF
     exact ⟨by rw [eqL_false hx hy hr.symm]; rfl, bw.trans ((unhide B4).mono bw.size)⟩
   ·
    obtain ⟨bw, hall⟩ := unhide HB
    have HF := hide (And.intro bw hall)
    clear bw hall HB
    go_wp2_with fail
    go_ret
    obtain ⟨bw, hall⟩ := unhide HF
    obtain ⟨_, _, _, hn1, hn2⟩ := unhide HA
    exact ⟨by rw [eqL_true (by omega) (fun q x' y' hx' hy' => hall q x' y' (by have := (List.getElem?_eq_some_iff.1 hx').1; omega) hx' hy')]; rfl, bw⟩
 ·
  have hne : ((n1 : Int) != (n2 : Int)) = true := by simp; omega
  go_enter Tryz.func27, Tryz.ntmps27
  go_wp2_with fail
  go_ret
  obtain ⟨_, _, _, hn1, hn2⟩ := unhide HA
  exact ⟨by rw [eqL_len (by omega)]; rfl, Below.refl _ _⟩
end Go.Proofs.YtdjehbdpcdikkaaGreatDoor

namespace Go.Proofs.YtdjehbdpcdikkaaGreatDoor
open Go.RowKit Go.Maps

def qiLoad (a : Value) : Sem Value := Instr.loadAt 74 a
theorem loadAt_qi (a : Value) : Instr.loadAt 74 a = qiLoad a := rfl
def qiStore (p v : Value) : Sem Unit := Instr.storeAt 74 p v
theorem storeAt_qi (p v : Value) : Instr.storeAt 74 p v = qiStore p v := rfl
theorem size_qi : (Tryz.prog.info? 74).map (·.size) = some 3 := by kernel_rfl
theorem qi_load {w : World} {b o : Nat} {c0 c1 c2 : Value} (h : ∀ q c, ([c0, c1, c2] : List Value)[q]? = some c → w.cell? ⟨b, o + q, none⟩ = some c) : (qiLoad (.pointer (some ⟨b, o, none⟩))).run Tryz.prog w = .ok (.agg #[c0, c1, c2]) w :=
 run_loadAt_mid w b o 74 [c0, c1, c2] _ (fun q v hq => h q v hq) Tryz.underlying74 rfl size_qi
theorem qi_new (w : World) {c0 c1 c2 : Value} (h1 : ∀ c ∈ ([c0, c1, c2] : List Value), c.oneCell' = true) : (qiStore (.pointer (some ⟨w.heap.size, 0, none⟩)) (.agg #[c0, c1, c2])).run Tryz.prog (w.alloc (.cells #[.string ⟨#[]⟩, .string ⟨#[]⟩, .int .i64 0] 74)) = .ok () (w.alloc (.cells #[c0, c1, c2] 74)) :=
 run_storeAt_new w 74 _ _ size_qi rfl (by simpa using h1)
theorem len_qi {cs : List Value} (h : cs.length = 3) : ∃ c0 c1 c2, cs = [c0, c1, c2] := by
 match cs, h with
 | [c0, c1, c2], _ => exact ⟨c0, c1, c2, rfl⟩
attribute [local go_sem ↓] loadAt_qi storeAt_qi
set_option maxRecDepth 100000 in
set_option maxHeartbeats 8000000 in
theorem eqf_i {α : Type} {p : PS α} (hp : PSok p) (hone : ∀ S w cs x, p S w cs x → ∀ c ∈ cs, c.oneCell' = true) {S : Nat → Prop} {w : World} {va vb : Value} {xs ys : List α} (eq : α → α → Bool) (ha : LsAt p 3 S w va xs) (hb : LsAt p 3 S w vb ys)
  (hf : ∀ (j : Nat) (x y : α), xs[j]? = some x → ys[j]? = some y → ∀ w' c0 c1 c2 d0 d1 d2, Below w.heap.size w w' → p S w' [c0, c1, c2] x → p S w' [d0, d1, d2] y → Calls Tryz.prog 30 #[.agg #[c0, c1, c2], .agg #[d0, d1, d2]] w' fun en w2 => en = .returned (.bool (eq x y)) ∧ Below w'.heap.size w' w2) :
  Calls Tryz.prog 29 #[va, vb, .func (.func 30) #[] #[]] w fun en w' => en = .returned (.bool (eqL eq xs ys)) ∧ Below w.heap.size w w' := by
 obtain ⟨a1, p1, e1⟩ := ha.sl
 obtain ⟨a2, p2, e2⟩ := hb.sl
 have hm1 : xs.length ≤ p1 ∧ p1 ≤ maxLen := by
  obtain ⟨_, _, _, e, h1, h2, _⟩ := ha
  rw [e] at e1
  cases e1
  exact ⟨h1, h2⟩
 have hm2 : ys.length ≤ p2 ∧ p2 ≤ maxLen := by
  obtain ⟨_, _, _, e, h1, h2, _⟩ := hb
  rw [e] at e2
  cases e2
  exact ⟨h1, h2⟩
 unfold maxLen at hm1 hm2
 obtain ⟨n1, hn1⟩ : ∃ n, xs.length = n := ⟨_, rfl⟩
 obtain ⟨n2, hn2⟩ : ∃ n, ys.length = n := ⟨_, rfl⟩
 rw [hn1] at e1 hm1
 rw [hn2] at e2 hm2
 obtain ⟨hc1, hc2⟩ := hm1
 obtain ⟨hc3, hc4⟩ := hm2
 have HA := hide (And.intro ha (And.intro hb (And.intro hf (And.intro hn1 hn2))))
 have HV := hide (And.intro e1 e2)
 rw [e1, e2]
 clear ha hb hf e1 e2 hn1 hn2
 by_cases hlen : n1 = n2
 ·
  subst hlen
  go_enter Tryz.func29, Tryz.ntmps29
  go_wp2_with fail
  go_loopw [17] (fun i wr => ∃ j : Nat, i = .int .i64 (j : Int) ∧ j ≤ n1 ∧ Hid (Below w.heap.size w wr ∧ ∀ q x y, q < j → xs[q]? = some x → ys[q]? = some y → eq x y = true)) (fun i _ => n1 - (intOf i).toNat)
  case atStart => exact ⟨0, rfl, Nat.zero_le _, hide ⟨Below.refl _ _, fun q _ _ hq => absurd hq (Nat.not_lt_zero _)⟩⟩
  case round =>
   obtain ⟨j, rfl, hj, HB⟩ := hrel
   by_cases hlt : j < n1
   ·
    obtain ⟨ha, hb, hf, hn1, hn2⟩ := unhide HA
    obtain ⟨bw, hall⟩ := unhide HB
    obtain ⟨x, hx⟩ : ∃ x, xs[j]? = some x := ⟨xs[j]'(by omega), List.getElem?_eq_getElem _⟩
    obtain ⟨y, hy⟩ : ∃ y, ys[j]? = some y := ⟨ys[j]'(by omega), List.getElem?_eq_getElem _⟩
    obtain ⟨b1, q1, cs1, ev1, hb1, _, hl1, hp1, hc1'⟩ := (ha.later hp bw).elem hx
    obtain ⟨b2, q2, cs2, ev2, hb2, _, hl2, hp2, hc2'⟩ := (hb.later hp bw).elem hy
    obtain ⟨c0, c1, c2, rfl⟩ := len_qi hl1
    obtain ⟨d0, d1, d2, rfl⟩ := len_qi hl2
    rw [(unhide HV).1, hn1] at ev1
    rw [(unhide HV).2, hn2] at ev2
    simp only [Value.slice.injEq] at ev1 ev2
    obtain ⟨rfl, -, -⟩ := ev1
    obtain ⟨rfl, -, -⟩ := ev2
    have h1 := hone _ _ _ _ hp1
    have h2 := hone _ _ _ _ hp2
    obtain ⟨W1, hW1⟩ : ∃ W1, W1 = wr.alloc (.cells #[c0, c1, c2] 74) := ⟨_, rfl⟩
    obtain ⟨W2, hW2⟩ : ∃ W2, W2 = W1.alloc (.cells #[d0, d1, d2] 74) := ⟨_, rfl⟩
    have s1 : W1.heap.size = wr.heap.size + 1 := by rw [hW1]; simp
    have B1 : Below wr.heap.size wr W1 := by rw [hW1]; exact (Below.refl _ wr).alloc (Nat.le_refl _) _
    have B2 : Below wr.heap.size wr W2 := by rw [hW2]; exact B1.alloc B1.size _
    have m1 : W1.heap[wr.heap.size]? = some (.cells #[c0, c1, c2] 74 (0, 0)) := by rw [hW1]; exact heap_alloc_new wr _
    have m2 : W2.heap[W1.heap.size]? = some (.cells #[d0, d1, d2] 74 (0, 0)) := by rw [hW2]; exact heap_alloc_new W1 _
    have m3 : W2.heap[wr.heap.size]? = some (.cells #[c0, c1, c2] 74 (0, 0)) := by rw [hW2, Below.heap_alloc _ _ _ (by omega)]; exact m1
    have L1 := qi_load (w := wr) (b := b1) (o := j * 3) hc1'
    have N1 := qi_new wr h1
    have L2 := qi_load (w := W1) (b := b2) (o := j * 3) (fun q c hq => by rw [B1.cell (p := ⟨b2, _, none⟩) hb2]; exact hc2' q c hq)
    have N2 := qi_new W1 h2
    have L3 := qi_load (w := W2) (b := wr.heap.size) (o := 0) (fun q c hq => by rw [cell_hp m3, Nat.zero_add]; simpa using hq)
    have L4 := qi_load (w := W2) (b := W1.heap.size) (o := 0) (fun q c hq => by rw [cell_hp m2, Nat.zero_add]; simpa using hq)
    have hcl := hf j x y hx hy W2 c0 c1 c2 d0 d1 d2 (bw.trans (B2.mono bw.size)) (hp.same _ _ _ _ _ hp1 B2.size (fun b _ hl => B2.block b hl)) (hp.same _ _ _ _ _ hp2 B2.size (fun b _ hl => B2.block b hl))
    rw [← hW1] at N1
    rw [← hW2] at N2
    obtain ⟨r, hr⟩ : ∃ r, r = eq x y := ⟨_, rfl⟩
    rw [← hr] at hcl
    have HF := hide (And.intro hx (And.intro hy (And.intro hall (And.intro (bw.trans (B2.mono bw.size)) hr))))
    clear ha hb hf bw hall hx hy hc1' hc2' hp1 hp2 hl1 hl2 h1 h2 hW1 hW2 s1 B1 B2 m1 m2 m3 hn1 hn2 HA HV hb1 hb2 hr HB
    cases r with
    | true =>
     go_wp2_with fail
     refine hcl.mono ?_
     clear hcl
     rintro en w4 ⟨rfl, b4⟩
     have B4 := hide b4
     clear b4 L1 N1 L2 N2 L3 L4
     go_wp2_with fail
     go_roundw
     case rel =>
      obtain ⟨hx, hy, hall, bw, hr⟩ := unhide HF
      refine ⟨j + 1, by go_num, by omega, hide ⟨bw.trans ((unhide B4).mono bw.size), fun q x' y' hq hx' hy' => ?_⟩⟩
      by_cases e : q = j
      ·
       subst e
       rw [hx] at hx'
       rw [hy] at hy'
       cases hx'
       cases hy'
       exact hr.symm
      · exact hall q x' y' (by omega) hx' hy'
     case measure => simp [intOf]; omega
    | false =>
     go_wp2_with fail
     refine hcl.mono ?_
     clear hcl
     rintro en w4 ⟨rfl, b4⟩
     have B4 := hide b4
     clear b4 L1 N1 L2 N2 L3 L4
     go_wp2_with fail
     go_ret
     obtain ⟨hx, hy, hall, bw, hr⟩ := unhide HF
     exact ⟨by rw [eqL_false hx hy hr.symm]; rfl, bw.trans ((unhide B4).mono bw.size)⟩
   ·
    obtain ⟨bw, hall⟩ := unhide HB
    have HF := hide (And.intro bw hall)
    clear bw hall HB
    go_wp2_with fail
    go_ret
    obtain ⟨bw, hall⟩ := unhide HF
    obtain ⟨_, _, _, hn1, hn2⟩ := unhide HA
    exact ⟨by rw [eqL_true (by omega) (fun q x' y' hx' hy' => hall q x' y' (by have := (List.getElem?_eq_some_iff.1 hx').1; omega) hx' hy')]; rfl, bw⟩
 ·
  have hne : ((n1 : Int) != (n2 : Int)) = true := by simp; omega
  go_enter Tryz.func29, Tryz.ntmps29
  go_wp2_with fail
  go_ret
  obtain ⟨_, _, _, hn1, hn2⟩ := unhide HA
  exact ⟨by rw [eqL_len (by omega)]; rfl, Below.refl _ _⟩
end Go.Proofs.YtdjehbdpcdikkaaGreatDoor

namespace Go.Proofs.YtdjehbdpcdikkaaGreatDoor
open Go.RowKit Go.Maps

def qqLoad (a : Value) : Sem Value := Instr.loadAt 82 a
theorem loadAt_qq (a : Value) : Instr.loadAt 82 a = qqLoad a := rfl
def qqStore (p v : Value) : Sem Unit := Instr.storeAt 82 p v
theorem storeAt_qq (p v : Value) : Instr.storeAt 82 p v = qqStore p v := rfl
theorem size_qq : (Tryz.prog.info? 82).map (·.size) = some 5 := by kernel_rfl
theorem qq_load {w : World} {b o : Nat} {c0 c1 c2 c3 c4 : Value} (h : ∀ q c, ([c0, c1, c2, c3, c4] : List Value)[q]? = some c → w.cell? ⟨b, o + q, none⟩ = some c) : (qqLoad (.pointer (some ⟨b, o, none⟩))).run Tryz.prog w = .ok (.agg #[c0, c1, c2, c3, c4]) w :=
 run_loadAt_mid w b o 82 [c0, c1, c2, c3, c4] _ (fun q v hq => h q v hq) Tryz.underlying82 rfl size_qq
theorem qq_new (w : World) {c0 c1 c2 c3 c4 : Value} (h1 : ∀ c ∈ ([c0, c1, c2, c3, c4] : List Value), c.oneCell' = true) : (qqStore (.pointer (some ⟨w.heap.size, 0, none⟩)) (.agg #[c0, c1, c2, c3, c4])).run Tryz.prog (w.alloc (.cells #[.string ⟨#[]⟩, .slice none 0 0, .int .i64 0, .slice none 0 0, .int .i64 0] 82)) = .ok () (w.alloc (.cells #[c0, c1, c2, c3, c4] 82)) :=
 run_storeAt_new w 82 _ _ size_qq rfl (by simpa using h1)
theorem len_qq {cs : List Value} (h : cs.length = 5) : ∃ c0 c1 c2 c3 c4, cs = [c0, c1, c2, c3, c4] := by
 match cs, h with
 | [c0, c1, c2, c3, c4], _ => exact ⟨c0, c1, c2, c3, c4, rfl⟩
attribute [local go_sem ↓] loadAt_qq storeAt_qq
set_option maxRecDepth 100000 in
set_option maxHeartbeats 8000000 in
theorem eqf_q {α : Type} {p : PS α} (hp : PSok p) (hone : ∀ S w cs x, p S w cs x → ∀ c ∈ cs, c.oneCell' = true) {S : Nat → Prop} {w : World} {va vb : Value} {xs ys : List α} (eq : α → α → Bool) (ha : LsAt p 5 S w va xs) (hb : LsAt p 5 S w vb ys)
  (hf : ∀ (j : Nat) (x y : α), xs[j]? = some x → ys[j]? = some y → ∀ w' c0 c1 c2 c3 c4 d0 d1 d2 d3 d4, Below w.heap.size w w' → p S w' [c0, c1, c2, c3, c4] x → p S w' [d0, d1, d2, d3, d4] y → Calls Tryz.prog 32 #[.agg #[c0, c1, c2, c3, c4], .agg #[d0, d1, d2, d3, d4]] w' fun en w2 => en = .returned (.bool (eq x y)) ∧ Below w'.heap.size w' w2) :
  Calls Tryz.prog 31 #[va, vb, .func (.func 32) #[] #[]] w fun en w' => en = .returned (.bool (eqL eq xs ys)) ∧ Below w.heap.size w w' := by
 obtain ⟨a1, p1, e1⟩ := ha.sl
 obtain ⟨a2, p2, e2⟩ := hb.sl
 have hm1 : xs.length ≤ p1 ∧ p1 ≤ maxLen := by
  obtain ⟨_, _, _, e, h1, h2, _⟩ := ha
  rw [e] at e1
  cases e1
  exact ⟨h1, h2⟩
 have hm2 : ys.length ≤ p2 ∧ p2 ≤ maxLen := by
  obtain ⟨_, _, _, e, h1, h2, _⟩ := hb
  rw [e] at e2
  cases e2
  exact ⟨h1, h2⟩
 unfold maxLen at hm1 hm2
 obtain ⟨n1, hn1⟩ : ∃ n, xs.length = n := ⟨_, rfl⟩
 obtain ⟨n2, hn2⟩ : ∃ n, ys.length = n := ⟨_, rfl⟩
 rw [hn1] at e1 hm1
 rw [hn2] at e2 hm2
 obtain ⟨hc1, hc2⟩ := hm1
 obtain ⟨hc3, hc4⟩ := hm2
 have HA := hide (And.intro ha (And.intro hb (And.intro hf (And.intro hn1 hn2))))
 have HV := hide (And.intro e1 e2)
 rw [e1, e2]
 clear ha hb hf e1 e2 hn1 hn2
 by_cases hlen : n1 = n2
 ·
  subst hlen
  go_enter Tryz.func31, Tryz.ntmps31
  go_wp2_with fail
  go_loopw [17] (fun i wr => ∃ j : Nat, i = .int .i64 (j : Int) ∧ j ≤ n1 ∧ Hid (Below w.heap.size w wr ∧ ∀ q x y, q < j → xs[q]? = some x → ys[q]? = some y → eq x y = true)) (fun i _ => n1 - (intOf i).toNat)
  case atStart => exact ⟨0, rfl, Nat.zero_le _, hide ⟨Below.refl _ _, fun q _ _ hq => absurd hq (Nat.not_lt_zero _)⟩⟩
  case round =>
   obtain ⟨j, rfl, hj, HB⟩ := hrel
   by_cases hlt : j < n1
   ·
    obtain ⟨ha, hb, hf, hn1, hn2⟩ := unhide HA
    obtain ⟨bw, hall⟩ := unhide HB
    obtain ⟨x, hx⟩ : ∃ x, xs[j]? = some x := ⟨xs[j]'(by omega), List.getElem?_eq_getElem _⟩
    obtain ⟨y, hy⟩ : ∃ y, ys[j]? = some y := ⟨ys[j]'(by omega), List.getElem?_eq_getElem _⟩
    obtain ⟨b1, q1, cs1, ev1, hb1, _, hl1, hp1, hc1'⟩ := (ha.later hp bw).elem hx
    obtain ⟨b2, q2, cs2, ev2, hb2, _, hl2, hp2, hc2'⟩ := (hb.later hp bw).elem hy
    obtain ⟨c0, c1, c2, c3, c4, rfl⟩ := len_qq hl1
    obtain ⟨d0, d1, d2, d3, d4, rfl⟩ := len_qq hl2
    rw [(unhide HV).1, hn1] at ev1
    rw [(unhide HV).2, hn2] at ev2
    simp only [Value.slice.injEq] at ev1 ev2
    obtain ⟨rfl, -, -⟩ := ev1
    obtain ⟨rfl, -, -⟩ := ev2
    have h1 := hone _ _ _ _ hp1
    have h2 := hone _ _ _ _ hp2
    obtain ⟨W1, hW1⟩ : ∃ W1, W1 = wr.alloc (.cells #[c0, c1, c2, c3, c4] 82) := ⟨_, rfl⟩
    obtain ⟨W2, hW2⟩ : ∃ W2, W2 = W1.alloc (.cells #[d0, d1, d2, d3, d4] 82) := ⟨_, rfl⟩
    have s1 : W1.heap.size = wr.heap.size + 1 := by rw [hW1]; simp
    have B1 : Below wr.heap.size wr W1 := by rw [hW1]; exact (Below.refl _ wr).alloc (Nat.le_refl _) _
    have B2 : Below wr.heap.size wr W2 := by rw [hW2]; exact B1.alloc B1.size _
    have m1 : W1.heap[wr.heap.size]? = some (.cells #[c0, c1, c2, c3, c4] 82 (0, 0)) := by rw [hW1]; exact heap_alloc_new wr _
    have m2 : W2.heap[W1.heap.size]? = some (.cells #[d0, d1, d2, d3, d4] 82 (0, 0)) := by rw [hW2]; exact heap_alloc_new W1 _
    have m3 : W2.heap[wr.heap.size]? = some (.cells #[c0, c1, c2, c3, c4] 82 (0, 0)) := by rw [hW2, Below.heap_alloc _ _ _ (by omega)]; exact m1
    have L1 := qq_load (w := wr) (b := b1) (o := j * 5) hc1'
    have N1 := qq_new wr h1
    have L2 := qq_load (w := W1) (b := b2) (o := j * 5) (fun q c hq => by rw [B1.cell (p := ⟨b2, _, none⟩) hb2]; exact hc2' q c hq)
    have N2 := qq_new W1 h2
    have L3 := qq_load (w := W2) (b := wr.heap.size) (o := 0) (fun q c hq => by rw [cell_hp m3, Nat.zero_add]; simpa using hq)
    have L4 := qq_load (w := W2) (b := W1.heap.size) (o := 0) (fun q c hq => by rw [cell_hp m2, Nat.zero_add]; simpa using hq)
    have hcl := hf j x y hx hy W2 c0 c1 c2 c3 c4 d0 d1 d2 d3 d4 (bw.trans (B2.mono bw.size)) (hp.same _ _ _ _ _ hp1 B2.size (fun b _ hl => B2.block b hl)) (hp.same _ _ _ _ _ hp2 B2.size (fun b _ hl => B2.block b hl))
    rw [← hW1] at N1
    rw [← hW2] at N2
    obtain ⟨r, hr⟩ : ∃ r, r = eq x y := ⟨_, rfl⟩
    rw [← hr] at hcl
    have HF := hide (And.intro hx (And.intro hy (And.intro hall (And.intro (bw.trans (B2.mono bw.size)) hr))))
    clear ha hb hf bw hall hx hy hc1' hc2' hp1 hp2 hl1 hl2 h1 h2 hW1 hW2 s1 B1 B2 m1 m2 m3 hn1 hn2 HA HV hb1 hb2 hr HB
    cases r with
    | true =>
     go_wp2_with fail
     refine hcl.mono ?_
     clear hcl
     rintro en w4 ⟨rfl, b4⟩
     have B4 := hide b4
     clear b4 L1 N1 L2 N2 L3 L4
     go_wp2_with fail
     go_roundw
     case rel =>
      obtain ⟨hx, hy, hall, bw, hr⟩ := unhide HF
      refine ⟨j + 1, by go_num, by omega, hide ⟨bw.trans ((unhide B4).mono bw.size), fun q x' y' hq hx' hy' => ?_⟩⟩
      by_cases e : q = j
      ·
       subst e
       rw [hx] at hx'
       rw [hy] at hy'
       cases hx'
       cases hy'
       exact hr.symm
      · exact hall q x' y' (by omega) hx' hy'
     case measure => simp [intOf]; omega
    | false =>
     go_wp2_with fail
     refine hcl.mono ?_
     clear hcl
     rintro en w4 ⟨rfl, b4⟩
     have B4 := hide b4
     clear b4 L1 N1 L2 N2 L3 L4
     go_wp2_with fail
     go_ret
     obtain ⟨hx, hy, hall, bw, hr⟩ := unhide HF
     exact ⟨by rw [eqL_false hx hy hr.symm]; rfl, bw.trans ((unhide B4).mono bw.size)⟩
   ·
    obtain ⟨bw, hall⟩ := unhide HB
    have HF := hide (And.intro bw hall)
    clear bw hall HB
    go_wp2_with fail
    go_ret
    obtain ⟨bw, hall⟩ := unhide HF
    obtain ⟨_, _, _, hn1, hn2⟩ := unhide HA
    exact ⟨by rw [eqL_true (by omega) (fun q x' y' hx' hy' => hall q x' y' (by have := (List.getElem?_eq_some_iff.1 hx').1; omega) hx' hy')]; rfl, bw⟩
 ·
  have hne : ((n1 : Int) != (n2 : Int)) = true := by simp; omega
  go_enter Tryz.func31, Tryz.ntmps31
  go_wp2_with fail
  go_ret
  obtain ⟨_, _, _, hn1, hn2⟩ := unhide HA
  exact ⟨by rw [eqL_len (by omega)]; rfl, Below.refl _ _⟩
end Go.Proofs.YtdjehbdpcdikkaaGreatDoor

namespace Go.Proofs.YtdjehbdpcdikkaaGreatDoor
open Go.RowKit Go.Maps

set_option maxRecDepth 100000 in
set_option maxHeartbeats 8000000 in
theorem sameExprs_ch {w : World} {xk xm xat : Int} {xt : Txt} {xa : Option Addr} {xn xc : Nat} {yk ym yat : Int} {yt : Txt} {ya : Option Addr} {yn yc : Nat} {s0 s1 s2 s3 : Bool} (h0 : s0 = decide (xk = yk)) (h1 : s1 = decide (xm = ym)) (h2 : s2 = decide (xt = yt)) (h3 : ∀ w', Below w.heap.size w w' → Calls Tryz.prog 94 #[.slice xa xn xc, .slice ya yn yc, .func (.func 95) #[] #[]] w' fun en w2 => en = .returned (.bool s3) ∧ Below w'.heap.size w' w2) :
  Calls Tryz.prog 95 #[.agg #[.int .i64 xk, .int .i64 xm, str xt, .slice xa xn xc, .int .i64 xat], .agg #[.int .i64 yk, .int .i64 ym, str yt, .slice ya yn yc, .int .i64 yat]] w fun en w' => en = .returned (.bool (s0 && s1 && s2 && s3)) ∧ Below w.heap.size w w' := by
 have B0 : Hid (Below w.heap.size w ((w.alloc (.cells #[.int .i64 xk, .int .i64 xm, str xt, .slice xa xn xc, .int .i64 xat] 90)).alloc (.cells #[.int .i64 yk, .int .i64 ym, str yt, .slice ya yn yc, .int .i64 yat] 90)) ∧ ((w.alloc (.cells #[.int .i64 xk, .int .i64 xm, str xt, .slice xa xn xc, .int .i64 xat] 90)).alloc (.cells #[.int .i64 yk, .int .i64 ym, str yt, .slice ya yn yc, .int .i64 yat] 90)).heap[w.heap.size]? = some (.cells #[.int .i64 xk, .int .i64 xm, str xt, .slice xa xn xc, .int .i64 xat] 90 (0, 0)) ∧ ((w.alloc (.cells #[.int .i64 xk, .int .i64 xm, str xt, .slice xa xn xc, .int .i64 xat] 90)).alloc (.cells #[.int .i64 yk, .int .i64 ym, str yt, .slice ya yn yc, .int .i64 yat] 90)).heap[w.heap.size + 1]? = some (.cells #[.int .i64 yk, .int .i64 ym, str yt, .slice ya yn yc, .int .i64 yat] 90 (0, 0))) := by
  refine ⟨((Below.refl _ w).alloc (Nat.le_refl _) _).alloc (by simp) _, ?_, ?_⟩
  · rw [Below.heap_alloc _ _ _ (by simp)]; exact heap_alloc_new w _
  ·
   have := heap_alloc_new (w.alloc (.cells #[.int .i64 xk, .int .i64 xm, str xt, .slice xa xn xc, .int .i64 xat] 90)) (.cells #[.int .i64 yk, .int .i64 ym, str yt, .slice ya yn yc, .int .i64 yat] 90)
   rw [show (w.alloc (.cells #[.int .i64 xk, .int .i64 xm, str xt, .slice xa xn xc, .int .i64 xat] 90)).heap.size = w.heap.size + 1 by simp] at this
   exact this
 have H0 := hide h0
 have H1 := hide h1
 have H2 := hide h2
 have H3 := hide h3
 clear h0 h1 h2 h3
 cases s0 with
 | false =>
  have g0 : (xk == yk) = false := by simpa using unhide H0
  go_enter Tryz.func95, Tryz.ntmps95
  go_wp2_with fail
  go_ret
  exact ⟨rfl, (unhide B0).1⟩
 | true =>
  have g0 : (xk == yk) = true := by simpa using unhide H0
  cases s1 with
  | false =>
   have g1 : (xm == ym) = false := by simpa using unhide H1
   go_enter Tryz.func95, Tryz.ntmps95
   go_wp2_with fail
   go_ret
   exact ⟨rfl, (unhide B0).1⟩
  | true =>
   have g1 : (xm == ym) = true := by simpa using unhide H1
   cases s2 with
   | false =>
    have g2 : (xt == yt) = false := by simpa using unhide H2
    go_enter Tryz.func95, Tryz.ntmps95
    go_wp2_with fail
    go_ret
    exact ⟨rfl, (unhide B0).1⟩
   | true =>
    have g2 : (xt == yt) = true := by simpa using unhide H2
    go_enter Tryz.func95, Tryz.ntmps95
    have hcl := unhide H3 _ (unhide B0).1
    go_wp2_with fail
    refine hcl.mono ?_
    clear hcl
    rintro en w3 ⟨rfl, b3⟩
    obtain ⟨bb, na, nb⟩ := unhide B0
    have na3 := (b3.block _ (lt_hp na)).trans na
    have nb3 := (b3.block _ (lt_hp nb)).trans nb
    have BB3 := hide (And.intro (bb.trans (b3.mono bb.size)) (And.intro na3 nb3))
    obtain ⟨x_0, x_1, x_2, x_3, x_4, xf⟩ := cl5 na3
    obtain ⟨y_0, y_1, y_2, y_3, y_4, yf⟩ := cl5 nb3
    clear bb na nb b3 na3 nb3
    cases s3 with
    | false =>
     go_wp2_with fail
     go_ret
     exact ⟨rfl, (unhide BB3).1⟩
    | true =>
     go_wp2_with fail
     go_ret
     exact ⟨rfl, (unhide BB3).1⟩
end Go.Proofs.YtdjehbdpcdikkaaGreatDoor

namespace Go.Proofs.YtdjehbdpcdikkaaGreatDoor
open Go.RowKit Go.Maps

set_option maxRecDepth 100000 in
set_option maxHeartbeats 8000000 in
theorem sameAtoms_ch {w : World} {xat : Int} {xt : Txt} {xa : Option Addr} {xn xc : Nat} {yat : Int} {yt : Txt} {ya : Option Addr} {yn yc : Nat} {s0 s1 : Bool} (h0 : s0 = decide (xt = yt)) (h1 : ∀ w', Below w.heap.size w w' → Calls Tryz.prog 94 #[.slice xa xn xc, .slice ya yn yc, .func (.func 95) #[] #[]] w' fun en w2 => en = .returned (.bool s1) ∧ Below w'.heap.size w' w2) :
  Calls Tryz.prog 65 #[.agg #[str xt, .slice xa xn xc, .int .i64 xat], .agg #[str yt, .slice ya yn yc, .int .i64 yat]] w fun en w' => en = .returned (.bool (s0 && s1)) ∧ Below w.heap.size w w' := by
 have B0 : Hid (Below w.heap.size w ((w.alloc (.cells #[str xt, .slice xa xn xc, .int .i64 xat] 79)).alloc (.cells #[str yt, .slice ya yn yc, .int .i64 yat] 79)) ∧ ((w.alloc (.cells #[str xt, .slice xa xn xc, .int .i64 xat] 79)).alloc (.cells #[str yt, .slice ya yn yc, .int .i64 yat] 79)).heap[w.heap.size]? = some (.cells #[str xt, .slice xa xn xc, .int .i64 xat] 79 (0, 0)) ∧ ((w.alloc (.cells #[str xt, .slice xa xn xc, .int .i64 xat] 79)).alloc (.cells #[str yt, .slice ya yn yc, .int .i64 yat] 79)).heap[w.heap.size + 1]? = some (.cells #[str yt, .slice ya yn yc, .int .i64 yat] 79 (0, 0))) := by
  refine ⟨((Below.refl _ w).alloc (Nat.le_refl _) _).alloc (by simp) _, ?_, ?_⟩
  · rw [Below.heap_alloc _ _ _ (by simp)]; exact heap_alloc_new w _
  ·
   have := heap_alloc_new (w.alloc (.cells #[str xt, .slice xa xn xc, .int .i64 xat] 79)) (.cells #[str yt, .slice ya yn yc, .int .i64 yat] 79)
   rw [show (w.alloc (.cells #[str xt, .slice xa xn xc, .int .i64 xat] 79)).heap.size = w.heap.size + 1 by simp] at this
   exact this
 have H0 := hide h0
 have H1 := hide h1
 clear h0 h1
 cases s0 with
 | false =>
  have g0 : (xt == yt) = false := by simpa using unhide H0
  go_enter Tryz.func65, Tryz.ntmps65
  go_wp2_with fail
  go_ret
  exact ⟨rfl, (unhide B0).1⟩
 | true =>
  have g0 : (xt == yt) = true := by simpa using unhide H0
  go_enter Tryz.func65, Tryz.ntmps65
  have hcl := unhide H1 _ (unhide B0).1
  go_wp2_with fail
  refine hcl.mono ?_
  clear hcl
  rintro en w1 ⟨rfl, b1⟩
  obtain ⟨bb, na, nb⟩ := unhide B0
  have na1 := (b1.block _ (lt_hp na)).trans na
  have nb1 := (b1.block _ (lt_hp nb)).trans nb
  have BB1 := hide (And.intro (bb.trans (b1.mono bb.size)) (And.intro na1 nb1))
  obtain ⟨x_0, x_1, x_2, xf⟩ := cl3 na1
  obtain ⟨y_0, y_1, y_2, yf⟩ := cl3 nb1
  clear bb na nb b1 na1 nb1
  cases s1 with
  | false =>
   go_wp2_with fail
   go_ret
   exact ⟨rfl, (unhide BB1).1⟩
  | true =>
   go_wp2_with fail
   go_ret
   exact ⟨rfl, (unhide BB1).1⟩
end Go.Proofs.YtdjehbdpcdikkaaGreatDoor
