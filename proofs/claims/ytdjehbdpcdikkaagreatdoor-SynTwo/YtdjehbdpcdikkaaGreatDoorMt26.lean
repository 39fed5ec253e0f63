/- slices.EqualFunc at Expr. slices.EqualFunc at Lit. slices.EqualFunc at Ctor. slices.EqualFunc at TypeDecl. -/
import Derived.Test.YtdjehbdpcdikkaaGreatDoorMt25
namespace Go.Proofs.YtdjehbdpcdikkaaGreatDoor
open Go.RowKit Go.Maps

def qeLoad (a : Value) : Sem Value := Instr.loadAt 90 a
theorem loadAt_qe (a : Value) : Instr.loadAt 90 a = qeLoad a := rfl
def qeStore (p v : Value) : Sem Unit := Instr.storeAt 90 p v
theorem storeAt_qe (p v : Value) : Instr.storeAt 90 p v = qeStore p v := rfl
theorem size_qe : (Tryz.prog.info? 90).map (·.size) = some 5 := by kernel_rfl
theorem qe_load {w : World} {b o : Nat} {c0 c1 c2 c3 c4 : Value} (h : ∀ q c, ([c0, c1, c2, c3, c4] : List Value)[q]? = some c → w.cell? ⟨b, o + q, none⟩ = some c) : (qeLoad (.pointer (some ⟨b, o, none⟩))).run Tryz.prog w = .ok (.agg #[c0, c1, c2, c3, c4]) w :=
 run_loadAt_mid w b o 90 [c0, c1, c2, c3, c4] _ (fun q v hq => h q v hq) Tryz.underlying90 rfl size_qe
theorem qe_new (w : World) {c0 c1 c2 c3 c4 : Value} (h1 : ∀ c ∈ ([c0, c1, c2, c3, c4] : List Value), c.oneCell' = true) : (qeStore (.pointer (some ⟨w.heap.size, 0, none⟩)) (.agg #[c0, c1, c2, c3, c4])).run Tryz.prog (w.alloc (.cells #[.int .i64 0, .int .i64 0, .string ⟨#[]⟩, .slice none 0 0, .int .i64 0] 90)) = .ok () (w.alloc (.cells #[c0, c1, c2, c3, c4] 90)) :=
 run_storeAt_new w 90 _ _ size_qe rfl (by simpa using h1)
theorem len_qe {cs : List Value} (h : cs.length = 5) : ∃ c0 c1 c2 c3 c4, cs = [c0, c1, c2, c3, c4] := by
 match cs, h with
 | [c0, c1, c2, c3, c4], _ => exact ⟨c0, c1, c2, c3, c4, rfl⟩
attribute [local go_sem ↓] loadAt_qe storeAt_qe
set_option maxRecDepth 100000 in
set_option maxHeartbeats 8000000 in
theorem eqf_e {α : Type} {p : PS α} (hp : PSok p) (hone : ∀ S w cs x, p S w cs x → ∀ c ∈ cs, c.oneCell' = true) {S : Nat → Prop} {w : World} {va vb : Value} {xs ys : List α} (eq : α → α → Bool) (ha : LsAt p 5 S w va xs) (hb : LsAt p 5 S w vb ys)
  (hf : ∀ (j : Nat) (x y : α), xs[j]? = some x → ys[j]? = some y → ∀ w' c0 c1 c2 c3 c4 d0 d1 d2 d3 d4, Below w.heap.size w w' → p S w' [c0, c1, c2, c3, c4] x → p S w' [d0, d1, d2, d3, d4] y → Calls Tryz.prog 95 #[.agg #[c0, c1, c2, c3, c4], .agg #[d0, d1, d2, d3, d4]] w' fun en w2 => en = .returned (.bool (eq x y)) ∧ Below w'.heap.size w' w2) :
  Calls Tryz.prog 94 #[va, vb, .func (.func 95) #[] #[]] w fun en w' => en = .returned (.bool (eqL eq xs ys)) ∧ Below w.heap.size w w' := by
 obtain ⟨a1, p1, e1⟩ := ha.sl
 obtain ⟨a2, p2, e2⟩ := hb.sl
 have hm1 : xs.length ≤ p1 ∧ p1 ≤ maxLen := by
  obtain ⟨_, _, _, e, h1, h2, _⟩ := ha
  rw [e] at e1
  cases e1
  exact ⟨h1, h2⟩
 have hm2 : ys.length ≤ p2 ∧ p2 ≤ maxLen := by
  obtain ⟨_, _, _, e, h1, h2, _⟩ := hb
  rw [e] at e2
  cases e2
  exact ⟨h1, h2⟩
 unfold maxLen at hm1 hm2
 obtain ⟨n1, hn1⟩ : ∃ n, xs.length = n := ⟨_, rfl⟩
 obtain ⟨n2, hn2⟩ : ∃ n, ys.length = n := ⟨_, rfl⟩
 rw [hn1] at e1 hm1
 rw [hn2] at e2 hm2
 obtain ⟨hc1, hc2⟩ := hm1
 obtain ⟨hc3, hc4⟩ := hm2
 have HA := hide (And.intro ha (And.intro hb (And.intro hf (And.intro hn1 hn2))))
 have HV := hide (And.intro e1 e2)
 rw [e1, e2]
 clear ha hb hf e1 e2 hn1 hn2
 by_cases hlen : n1 = n2
 ·
  subst hlen
  go_enter Tryz.func94, Tryz.ntmps94
  go_wp2_with fail
  go_loopw [17] (fun i wr => ∃ j : Nat, i = .int .i64 (j : Int) ∧ j ≤ n1 ∧ Hid (Below w.heap.size w wr ∧ ∀ q x y, q < j → xs[q]? = some x → ys[q]? = some y → eq x y = true)) (fun i _ => n1 - (intOf i).toNat)
  case atStart => exact ⟨0, rfl, Nat.zero_le _, hide ⟨Below.refl _ _, fun q _ _ hq => absurd hq (Nat.not_lt_zero _)⟩⟩
  case round =>
   obtain ⟨j, rfl, hj, HB⟩ := hrel
   by_cases hlt : j < n1
   ·
    obtain ⟨ha, hb, hf, hn1, hn2⟩ := unhide HA
    obtain ⟨bw, hall⟩ := unhide HB
    obtain ⟨x, hx⟩ : ∃ x, xs[j]? = some x := ⟨xs[j]'(by omega), List.getElem?_eq_getElem _⟩
    obtain ⟨y, hy⟩ : ∃ y, ys[j]? = some y := ⟨ys[j]'(by omega), List.getElem?_eq_getElem _⟩
    obtain ⟨b1, q1, cs1, ev1, hb1, _, hl1, hp1, hc1'⟩ := (ha.later hp bw).elem hx
    obtain ⟨b2, q2, cs2, ev2, hb2, _, hl2, hp2, hc2'⟩ := (hb.later hp bw).elem hy
    obtain ⟨c0, c1, c2, c3, c4, rfl⟩ := len_qe hl1
    obtain ⟨d0, d1, d2, d3, d4, rfl⟩ := len_qe hl2
    rw [(unhide HV).1, hn1] at ev1
    rw [(unhide HV).2, hn2] at ev2
    simp only [Value.slice.injEq] at ev1 ev2
    obtain ⟨rfl, -, -⟩ := ev1
    obtain ⟨rfl, -, -⟩ := ev2
    have h1 := hone _ _ _ _ hp1
    have h2 := hone _ _ _ _ hp2
    obtain ⟨W1, hW1⟩ : ∃ W1, W1 = wr.alloc (.cells #[c0, c1, c2, c3, c4] 90) := ⟨_, rfl⟩
    obtain ⟨W2, hW2⟩ : ∃ W2, W2 = W1.alloc (.cells #[d0, d1, d2, d3, d4] 90) := ⟨_, rfl⟩
    have s1 : W1.heap.size = wr.heap.size + 1 := by rw [hW1]; simp
    have B1 : Below wr.heap.size wr W1 := by rw [hW1]; exact (Below.refl _ wr).alloc (Nat.le_refl _) _
    have B2 : Below wr.heap.size wr W2 := by rw [hW2]; exact B1.alloc B1.size _
    have m1 : W1.heap[wr.heap.size]? = some (.cells #[c0, c1, c2, c3, c4] 90 (0, 0)) := by rw [hW1]; exact heap_alloc_new wr _
    have m2 : W2.heap[W1.heap.size]? = some (.cells #[d0, d1, d2, d3, d4] 90 (0, 0)) := by rw [hW2]; exact heap_alloc_new W1 _
    have m3 : W2.heap[wr.heap.size]? = some (.cells #[c0, c1, c2, c3, c4] 90 (0, 0)) := by rw [hW2, Below.heap_alloc _ _ _ (by omega)]; exact m1
    have L1 := qe_load (w := wr) (b := b1) (o := j * 5) hc1'
    have N1 := qe_new wr h1
    have L2 := qe_load (w := W1) (b := b2) (o := j * 5) (fun q c hq => by rw [B1.cell (p := ⟨b2, _, none⟩) hb2]; exact hc2' q c hq)
    have N2 := qe_new W1 h2
    have L3 := qe_load (w := W2) (b := wr.heap.size) (o := 0) (fun q c hq => by rw [cell_hp m3, Nat.zero_add]; simpa using hq)
    have L4 := qe_load (w := W2) (b := W1.heap.size) (o := 0) (fun q c hq => by rw [cell_hp m2, Nat.zero_add]; simpa using hq)
    have hcl := hf j x y hx hy W2 c0 c1 c2 c3 c4 d0 d1 d2 d3 d4 (bw.trans (B2.mono bw.size)) (hp.same _ _ _ _ _ hp1 B2.size (fun b _ hl => B2.block b hl)) (hp.same _ _ _ _ _ hp2 B2.size (fun b _ hl => B2.block b hl))
    rw [← hW1] at N1
    rw [← hW2] at N2
    obtain ⟨r, hr⟩ : ∃ r, r = eq x y := ⟨_, rfl⟩
    rw [← hr] at hcl
    have HF := hide (And.intro hx (And.intro hy (And.intro hall (And.intro (bw.trans (B2.mono bw.size)) hr))))
    clear ha hb hf bw hall hx hy hc1' hc2' hp1 hp2 hl1 hl2 h1 h2 hW1 hW2 s1 B1 B2 m1 m2 m3 hn1 hn2 HA HV hb1 hb2 hr HB
    cases r with
    | true =>
     go_wp2_with fail
     refine hcl.mono ?_
     clear hcl
     rintro en w4 ⟨rfl, b4⟩
     have B4 := hide b4
     clear b4 L1 N1 L2 N2 L3 L4
     go_wp2_with fail
     go_roundw
     case rel =>
      obtain ⟨hx, hy, hall, bw, hr⟩ := unhide HF
      refine ⟨j + 1, by go_num, by omega, hide ⟨bw.trans ((unhide B4).mono bw.size), fun q x' y' hq hx' hy' => ?_⟩⟩
      by_cases e : q = j
      ·
       subst e
       rw [hx] at hx'
       rw [hy] at hy'
       cases hx'
       cases hy'
       exact hr.symm
      · exact hall q x' y' (by omega) hx' hy'
     case measure => simp [intOf]; omega
    | false =>
     go_wp2_with fail
     refine hcl.mono ?_
     clear hcl
     rintro en w4 ⟨rfl, b4⟩
     have B4 := hide b4
     clear b4 L1 N1 L2 N2 L3 L4
     go_wp2_with fail
     go_ret
     obtain ⟨hx, hy, hall, bw, hr⟩ := unhide HF
     exact ⟨by rw [eqL_false hx hy hr.symm]; rfl, bw.trans ((unhide B4).mono bw.size)⟩
   ·
    obtain ⟨bw, hall⟩ := unhide HB
    have HF := hide (And.intro bw hall)
    clear bw hall HB
    go_wp2_with fail
    go_ret
    obtain ⟨bw, hall⟩ := unhide HF
    obtain ⟨_, _, _, hn1, hn2⟩ := unhide HA
    exact ⟨by rw [eqL_true (by omega) (fun q x' y' hx' hy' => hall q x' y' (by have := (List.getElem?_eq_some_iff.1 hx').1; omega) hx' hy')]; rfl, bw⟩
 ·
  have hne : ((n1 : Int) != (n2 : Int)) = true := by simp; omega
  go_enter Tryz.func94, Tryz.ntmps94
  go_wp2_with fail
  go_ret
  obtain ⟨_, _, _, hn1, hn2⟩ := unhide HA
  exact ⟨by rw [eqL_len (by omega)]; rfl, Below.refl _ _⟩
end Go.Proofs.YtdjehbdpcdikkaaGreatDoor

namespace Go.Proofs.YtdjehbdpcdikkaaGreatDoor
open Go.RowKit Go.Maps

def qlLoad (a : Value) : Sem Value := Instr.loadAt 92 a
theorem loadAt_ql (a : Value) : Instr.loadAt 92 a = qlLoad a := rfl
def qlStore (p v : Value) : Sem Unit := Instr.storeAt 92 p v
theorem storeAt_ql (p v : Value) : Instr.storeAt 92 p v = qlStore p v := rfl
theorem size_ql : (Tryz.prog.info? 92).map (·.size) = some 16 := by kernel_rfl
theorem ql_load {w : World} {b o : Nat} {c0 c1 c2 c3 c4 c5 c6 c7 c8 c9 c10 c11 c12 c13 c14 c15 : Value} (h : ∀ q c, ([c0, c1, c2, c3, c4, c5, c6, c7, c8, c9, c10, c11, c12, c13, c14, c15] : List Value)[q]? = some c → w.cell? ⟨b, o + q, none⟩ = some c) : (qlLoad (.pointer (some ⟨b, o, none⟩))).run Tryz.prog w = .ok (.agg #[c0, c1, c2, c3, c4, c5, c6, c7, c8, c9, c10, c11, c12, c13, c14, c15]) w :=
 run_loadAt_mid w b o 92 [c0, c1, c2, c3, c4, c5, c6, c7, c8, c9, c10, c11, c12, c13, c14, c15] _ (fun q v hq => h q v hq) Tryz.underlying92 rfl size_ql
theorem ql_new (w : World) {c0 c1 c2 c3 c4 c5 c6 c7 c8 c9 c10 c11 c12 c13 c14 c15 : Value} (h1 : ∀ c ∈ ([c0, c1, c2, c3, c4, c5, c6, c7, c8, c9, c10, c11, c12, c13, c14, c15] : List Value), c.oneCell' = true) : (qlStore (.pointer (some ⟨w.heap.size, 0, none⟩)) (.agg #[c0, c1, c2, c3, c4, c5, c6, c7, c8, c9, c10, c11, c12, c13, c14, c15])).run Tryz.prog (w.alloc (.cells #[.int .i64 0, .string ⟨#[]⟩, .slice none 0 0, .int .i64 0, .string ⟨#[]⟩, .int .i64 0, .int .i64 0, .string ⟨#[]⟩, .slice none 0 0, .int .i64 0, .int .i64 0, .int .i64 0, .string ⟨#[]⟩, .slice none 0 0, .int .i64 0, .int .i64 0] 92)) = .ok () (w.alloc (.cells #[c0, c1, c2, c3, c4, c5, c6, c7, c8, c9, c10, c11, c12, c13, c14, c15] 92)) :=
 run_storeAt_new w 92 _ _ size_ql rfl (by simpa using h1)
theorem len_ql {cs : List Value} (h : cs.length = 16) : ∃ c0 c1 c2 c3 c4 c5 c6 c7 c8 c9 c10 c11 c12 c13 c14 c15, cs = [c0, c1, c2, c3, c4, c5, c6, c7, c8, c9, c10, c11, c12, c13, c14, c15] := by
 match cs, h with
 | [c0, c1, c2, c3, c4, c5, c6, c7, c8, c9, c10, c11, c12, c13, c14, c15], _ => exact ⟨c0, c1, c2, c3, c4, c5, c6, c7, c8, c9, c10, c11, c12, c13, c14, c15, rfl⟩
attribute [local go_sem ↓] loadAt_ql storeAt_ql
set_option maxRecDepth 100000 in
set_option maxHeartbeats 8000000 in
theorem eqf_l {α : Type} {p : PS α} (hp : PSok p) (hone : ∀ S w cs x, p S w cs x → ∀ c ∈ cs, c.oneCell' = true) {S : Nat → Prop} {w : World} {va vb : Value} {xs ys : List α} (eq : α → α → Bool) (ha : LsAt p 16 S w va xs) (hb : LsAt p 16 S w vb ys)
  (hf : ∀ (j : Nat) (x y : α), xs[j]? = some x → ys[j]? = some y → ∀ w' c0 c1 c2 c3 c4 c5 c6 c7 c8 c9 c10 c11 c12 c13 c14 c15 d0 d1 d2 d3 d4 d5 d6 d7 d8 d9 d10 d11 d12 d13 d14 d15, Below w.heap.size w w' → p S w' [c0, c1, c2, c3, c4, c5, c6, c7, c8, c9, c10, c11, c12, c13, c14, c15] x → p S w' [d0, d1, d2, d3, d4, d5, d6, d7, d8, d9, d10, d11, d12, d13, d14, d15] y → Calls Tryz.prog 67 #[.agg #[c0, c1, c2, c3, c4, c5, c6, c7, c8, c9, c10, c11, c12, c13, c14, c15], .agg #[d0, d1, d2, d3, d4, d5, d6, d7, d8, d9, d10, d11, d12, d13, d14, d15]] w' fun en w2 => en = .returned (.bool (eq x y)) ∧ Below w'.heap.size w' w2) :
  Calls Tryz.prog 66 #[va, vb, .func (.func 67) #[] #[]] w fun en w' => en = .returned (.bool (eqL eq xs ys)) ∧ Below w.heap.size w w' := by
 obtain ⟨a1, p1, e1⟩ := ha.sl
 obtain ⟨a2, p2, e2⟩ := hb.sl
 have hm1 : xs.length ≤ p1 ∧ p1 ≤ maxLen := by
  obtain ⟨_, _, _, e, h1, h2, _⟩ := ha
  rw [e] at e1
  cases e1
  exact ⟨h1, h2⟩
 have hm2 : ys.length ≤ p2 ∧ p2 ≤ maxLen := by
  obtain ⟨_, _, _, e, h1, h2, _⟩ := hb
  rw [e] at e2
  cases e2
  exact ⟨h1, h2⟩
 unfold maxLen at hm1 hm2
 obtain ⟨n1, hn1⟩ : ∃ n, xs.length = n := ⟨_, rfl⟩
 obtain ⟨n2, hn2⟩ : ∃ n, ys.length = n := ⟨_, rfl⟩
 rw [hn1] at e1 hm1
 rw [hn2] at e2 hm2
 obtain ⟨hc1, hc2⟩ := hm1
 obtain ⟨hc3, hc4⟩ := hm2
 have HA := hide (And.intro ha (And.intro hb (And.intro hf (And.intro hn1 hn2))))
 have HV := hide (And.intro e1 e2)
 rw [e1, e2]
 clear ha hb hf e1 e2 hn1 hn2
 by_cases hlen : n1 = n2
 ·
  subst hlen
  go_enter Tryz.func66, Tryz.ntmps66
  go_wp2_with fail
  go_loopw [17] (fun i wr => ∃ j : Nat, i = .int .i64 (j : Int) ∧ j ≤ n1 ∧ Hid (Below w.heap.size w wr ∧ ∀ q x y, q < j → xs[q]? = some x → ys[q]? = some y → eq x y = true)) (fun i _ => n1 - (intOf i).toNat)
  case atStart => exact ⟨0, rfl, Nat.zero_le _, hide ⟨Below.refl _ _, fun q _ _ hq => absurd hq (Nat.not_lt_zero _)⟩⟩
  case round =>
   obtain ⟨j, rfl, hj, HB⟩ := hrel
   by_cases hlt : j < n1
   ·
    obtain ⟨ha, hb, hf, hn1, hn2⟩ := unhide HA
    obtain ⟨bw, hall⟩ := unhide HB
    obtain ⟨x, hx⟩ : ∃ x, xs[j]? = some x := ⟨xs[j]'(by omega), List.getElem?_eq_getElem _⟩
    obtain ⟨y, hy⟩ : ∃ y, ys[j]? = some y := ⟨ys[j]'(by omega), List.getElem?_eq_getElem _⟩
    obtain ⟨b1, q1, cs1, ev1, hb1, _, hl1, hp1, hc1'⟩ := (ha.later hp bw).elem hx
    obtain ⟨b2, q2, cs2, ev2, hb2, _, hl2, hp2, hc2'⟩ := (hb.later hp bw).elem hy
    obtain ⟨c0, c1, c2, c3, c4, c5, c6, c7, c8, c9, c10, c11, c12, c13, c14, c15, rfl⟩ := len_ql hl1
    obtain ⟨d0, d1, d2, d3, d4, d5, d6, d7, d8, d9, d10, d11, d12, d13, d14, d15, rfl⟩ := len_ql hl2
    rw [(unhide HV).1, hn1] at ev1
    rw [(unhide HV).2, hn2] at ev2
    simp only [Value.slice.injEq] at ev1 ev2
    obtain ⟨rfl, -, -⟩ := ev1
    obtain ⟨rfl, -, -⟩ := ev2
    have h1 := hone _ _ _ _ hp1
    have h2 := hone _ _ _ _ hp2
    obtain ⟨W1, hW1⟩ : ∃ W1, W1 = wr.alloc (.cells #[c0, c1, c2, c3, c4, c5, c6, c7, c8, c9, c10, c11, c12, c13, c14, c15] 92) := ⟨_, rfl⟩
    obtain ⟨W2, hW2⟩ : ∃ W2, W2 = W1.alloc (.cells #[d0, d1, d2, d3, d4, d5, d6, d7, d8, d9, d10, d11, d12, d13, d14, d15] 92) := ⟨_, rfl⟩
    have s1 : W1.heap.size = wr.heap.size + 1 := by rw [hW1]; simp
    have B1 : Below wr.heap.size wr W1 := by rw [hW1]; exact (Below.refl _ wr).alloc (Nat.le_refl _) _
    have B2 : Below wr.heap.size wr W2 := by rw [hW2]; exact B1.alloc B1.size _
    have m1 : W1.heap[wr.heap.size]? = some (.cells #[c0, c1, c2, c3, c4, c5, c6, c7, c8, c9, c10, c11, c12, c13, c14, c15] 92 (0, 0)) := by rw [hW1]; exact heap_alloc_new wr _
    have m2 : W2.heap[W1.heap.size]? = some (.cells #[d0, d1, d2, d3, d4, d5, d6, d7, d8, d9, d10, d11, d12, d13, d14, d15] 92 (0, 0)) := by rw [hW2]; exact heap_alloc_new W1 _
    have m3 : W2.heap[wr.heap.size]? = some (.cells #[c0, c1, c2, c3, c4, c5, c6, c7, c8, c9, c10, c11, c12, c13, c14, c15] 92 (0, 0)) := by rw [hW2, Below.heap_alloc _ _ _ (by omega)]; exact m1
    have L1 := ql_load (w := wr) (b := b1) (o := j * 16) hc1'
    have N1 := ql_new wr h1
    have L2 := ql_load (w := W1) (b := b2) (o := j * 16) (fun q c hq => by rw [B1.cell (p := ⟨b2, _, none⟩) hb2]; exact hc2' q c hq)
    have N2 := ql_new W1 h2
    have L3 := ql_load (w := W2) (b := wr.heap.size) (o := 0) (fun q c hq => by rw [cell_hp m3, Nat.zero_add]; simpa using hq)
    have L4 := ql_load (w := W2) (b := W1.heap.size) (o := 0) (fun q c hq => by rw [cell_hp m2, Nat.zero_add]; simpa using hq)
    have hcl := hf j x y hx hy W2 c0 c1 c2 c3 c4 c5 c6 c7 c8 c9 c10 c11 c12 c13 c14 c15 d0 d1 d2 d3 d4 d5 d6 d7 d8 d9 d10 d11 d12 d13 d14 d15 (bw.trans (B2.mono bw.size)) (hp.same _ _ _ _ _ hp1 B2.size (fun b _ hl => B2.block b hl)) (hp.same _ _ _ _ _ hp2 B2.size (fun b _ hl => B2.block b hl))
    rw [← hW1] at N1
    rw [← hW2] at N2
    obtain ⟨r, hr⟩ : ∃ r, r = eq x y := ⟨_, rfl⟩
    rw [← hr] at hcl
    have HF := hide (And.intro hx (And.intro hy (And.intro hall (And.intro (bw.trans (B2.mono bw.size)) hr))))
    clear ha hb hf bw hall hx hy hc1' hc2' hp1 hp2 hl1 hl2 h1 h2 hW1 hW2 s1 B1 B2 m1 m2 m3 hn1 hn2 HA HV hb1 hb2 hr HB
    cases r with
    | true =>
     go_wp2_with fail
     refine hcl.mono ?_
     clear hcl
     rintro en w4 ⟨rfl, b4⟩
     have B4 := hide b4
     clear b4 L1 N1 L2 N2 L3 L4
     go_wp2_with fail
     go_roundw
     case rel =>
      obtain ⟨hx, hy, hall, bw, hr⟩ := unhide HF
      refine ⟨j + 1, by go_num, by omega, hide ⟨bw.trans ((unhide B4).mono bw.size), fun q x' y' hq hx' hy' => ?_⟩⟩
      by_cases e : q = j
      ·
       subst e
       rw [hx] at hx'
       rw [hy] at hy'
       cases hx'
       cases hy'
       exact hr.symm
      · exact hall q x' y' (by omega) hx' hy'
     case measure => simp [intOf]; omega
    | false =>
     go_wp2_with fail
     refine hcl.mono ?_
     clear hcl
     rintro en w4 ⟨rfl, b4⟩
     have B4 := hide b4
     clear b4 L1 N1 L2 N2 L3 L4
     go_wp2_with fail
     go_ret
     obtain ⟨hx, hy, hall, bw, hr⟩ := unhide HF
     exact ⟨by rw [eqL_false hx hy hr.symm]; rfl, bw.trans ((unhide B4).mono bw.size)⟩
   ·
    obtain ⟨bw, hall⟩ := unhide HB
    have HF := hide (And.intro bw hall)
    clear bw hall HB
    go_wp2_with fail
    go_ret
    obtain ⟨bw, hall⟩ := unhide HF
    obtain ⟨_, _, _, hn1, hn2⟩ := unhide HA
    exact ⟨by rw [eqL_true (by omega) (fun q x' y' hx' hy' => hall q x' y' (by have := (List.getElem?_eq_some_iff.1 hx').1; omega) hx' hy')]; rfl, bw⟩
 ·
  have hne : ((n1 : Int) != (n2 : Int)) = true := by simp; omega
  go_enter Tryz.func66, Tryz.ntmps66
  go_wp2_with fail
  go_ret
  obtain ⟨_, _, _, hn1, hn2⟩ := unhide HA
  exact ⟨by rw [eqL_len (by omega)]; rfl, Below.refl _ _⟩
end Go.Proofs.YtdjehbdpcdikkaaGreatDoor

namespace Go.Proofs.YtdjehbdpcdikkaaGreatDoor
open Go.RowKit Go.Maps

def qcLoad (a : Value) : Sem Value := Instr.loadAt 120 a
theorem loadAt_qc (a : Value) : Instr.loadAt 120 a = qcLoad a := rfl
def qcStore (p v : Value) : Sem Unit := Instr.storeAt 120 p v
theorem storeAt_qc (p v : Value) : Instr.storeAt 120 p v = qcStore p v := rfl
theorem size_qc : (Tryz.prog.info? 120).map (·.size) = some 2 := by kernel_rfl
theorem qc_load {w : World} {b o : Nat} {c0 c1 : Value} (h : ∀ q c, ([c0, c1] : List Value)[q]? = some c → w.cell? ⟨b, o + q, none⟩ = some c) : (qcLoad (.pointer (some ⟨b, o, none⟩))).run Tryz.prog w = .ok (.agg #[c0, c1]) w :=
 run_loadAt_mid w b o 120 [c0, c1] _ (fun q v hq => h q v hq) Tryz.underlying120 rfl size_qc
theorem qc_new (w : World) {c0 c1 : Value} (h1 : ∀ c ∈ ([c0, c1] : List Value), c.oneCell' = true) : (qcStore (.pointer (some ⟨w.heap.size, 0, none⟩)) (.agg #[c0, c1])).run Tryz.prog (w.alloc (.cells #[.string ⟨#[]⟩, .slice none 0 0] 120)) = .ok () (w.alloc (.cells #[c0, c1] 120)) :=
 run_storeAt_new w 120 _ _ size_qc rfl (by simpa using h1)
theorem len_qc {cs : List Value} (h : cs.length = 2) : ∃ c0 c1, cs = [c0, c1] := by
 match cs, h with
 | [c0, c1], _ => exact ⟨c0, c1, rfl⟩
attribute [local go_sem ↓] loadAt_qc storeAt_qc
set_option maxRecDepth 100000 in
set_option maxHeartbeats 8000000 in
theorem eqf_c {α : Type} {p : PS α} (hp : PSok p) (hone : ∀ S w cs x, p S w cs x → ∀ c ∈ cs, c.oneCell' = true) {S : Nat → Prop} {w : World} {va vb : Value} {xs ys : List α} (eq : α → α → Bool) (ha : LsAt p 2 S w va xs) (hb : LsAt p 2 S w vb ys)
  (hf : ∀ (j : Nat) (x y : α), xs[j]? = some x → ys[j]? = some y → ∀ w' c0 c1 d0 d1, Below w.heap.size w w' → p S w' [c0, c1] x → p S w' [d0, d1] y → Calls Tryz.prog 62 #[.agg #[c0, c1], .agg #[d0, d1]] w' fun en w2 => en = .returned (.bool (eq x y)) ∧ Below w'.heap.size w' w2) :
  Calls Tryz.prog 61 #[va, vb, .func (.func 62) #[] #[]] w fun en w' => en = .returned (.bool (eqL eq xs ys)) ∧ Below w.heap.size w w' := by
 obtain ⟨a1, p1, e1⟩ := ha.sl
 obtain ⟨a2, p2, e2⟩ := hb.sl
 have hm1 : xs.length ≤ p1 ∧ p1 ≤ maxLen := by
  obtain ⟨_, _, _, e, h1, h2, _⟩ := ha
  rw [e] at e1
  cases e1
  exact ⟨h1, h2⟩
 have hm2 : ys.length ≤ p2 ∧ p2 ≤ maxLen := by
  obtain ⟨_, _, _, e, h1, h2, _⟩ := hb
  rw [e] at e2
  cases e2
  exact ⟨h1, h2⟩
 unfold maxLen at hm1 hm2
 obtain ⟨n1, hn1⟩ : ∃ n, xs.length = n := ⟨_, rfl⟩
 obtain ⟨n2, hn2⟩ : ∃ n, ys.length = n := ⟨_, rfl⟩
 rw [hn1] at e1 hm1
 rw [hn2] at e2 hm2
 obtain ⟨hc1, hc2⟩ := hm1
 obtain ⟨hc3, hc4⟩ := hm2
 have HA := hide (And.intro ha (And.intro hb (And.intro hf (And.intro hn1 hn2))))
 have HV := hide (And.intro e1 e2)
 rw [e1, e2]
 clear ha hb hf e1 e2 hn1 hn2
 by_cases hlen : n1 = n2
 ·
  subst hlen
  go_enter Tryz.func61, Tryz.ntmps61
  go_wp2_with fail
  go_loopw [17] (fun i wr => ∃ j : Nat, i = .int .i64 (j : Int) ∧ j ≤ n1 ∧ Hid (Below w.heap.size w wr ∧ ∀ q x y, q < j → xs[q]? = some x → ys[q]? = some y → eq x y = true)) (fun i _ => n1 - (intOf i).toNat)
  case atStart => exact ⟨0, rfl, Nat.zero_le _, hide ⟨Below.refl _ _, fun q _ _ hq => absurd hq (Nat.not_lt_zero _)⟩⟩
  case round =>
   obtain ⟨j, rfl, hj, HB⟩ := hrel
   by_cases hlt : j < n1
   ·
    obtain ⟨ha, hb, hf, hn1, hn2⟩ := unhide HA
    obtain ⟨bw, hall⟩ := unhide HB
    obtain ⟨x, hx⟩ : ∃ x, xs[j]? = some x := ⟨xs[j]'(by omega), List.getElem?_eq_getElem _⟩
    obtain ⟨y, hy⟩ : ∃ y, ys[j]? = some y := ⟨ys[j]'(by omega), List.getElem?_eq_getElem _⟩
    obtain ⟨b1, q1, cs1, ev1, hb1, _, hl1, hp1, hc1'⟩ := (ha.later hp bw).elem hx
    obtain ⟨b2, q2, cs2, ev2, hb2, _, hl2, hp2, hc2'⟩ := (hb.later hp bw).elem hy
    obtain ⟨c0, c1, rfl⟩ := len_qc hl1
    obtain ⟨d0, d1, rfl⟩ := len_qc hl2
    rw [(unhide HV).1, hn1] at ev1
    rw [(unhide HV).2, hn2] at ev2
    simp only [Value.slice.injEq] at ev1 ev2
    obtain ⟨rfl, -, -⟩ := ev1
    obtain ⟨rfl, -, -⟩ := ev2
    have h1 := hone _ _ _ _ hp1
    have h2 := hone _ _ _ _ hp2
    obtain ⟨W1, hW1⟩ : ∃ W1, W1 = wr.alloc (.cells #[c0, c1] 120) := ⟨_, rfl⟩
    obtain ⟨W2, hW2⟩ : ∃ W2, W2 = W1.alloc (.cells #[d0, d1] 120) := ⟨_, rfl⟩
    have s1 : W1.heap.size = wr.heap.size + 1 := by rw [hW1]; simp
    have B1 : Below wr.heap.size wr W1 := by rw [hW1]; exact (Below.refl _ wr).alloc (Nat.le_refl _) _
    have B2 : Below wr.heap.size wr W2 := by rw [hW2]; exact B1.alloc B1.size _
    have m1 : W1.heap[wr.heap.size]? = some (.cells #[c0, c1] 120 (0, 0)) := by rw [hW1]; exact heap_alloc_new wr _
    have m2 : W2.heap[W1.heap.size]? = some (.cells #[d0, d1] 120 (0, 0)) := by rw [hW2]; exact heap_alloc_new W1 _
    have m3 : W2.heap[wr.heap.size]? = some (.cells #[c0, c1] 120 (0, 0)) := by rw [hW2, Below.heap_alloc _ _ _ (by omega)]; exact m1
    have L1 := qc_load (w := wr) (b := b1) (o := j * 2) hc1'
    have N1 := qc_new wr h1
    have L2 := qc_load (w := W1) (b := b2) (o := j * 2) (fun q c hq => by rw [B1.cell (p := ⟨b2, _, none⟩) hb2]; exact hc2' q c hq)
    have N2 := qc_new W1 h2
    have L3 := qc_load (w := W2) (b := wr.heap.size) (o := 0) (fun q c hq => by rw [cell_hp m3, Nat.zero_add]; simpa using hq)
    have L4 := qc_load (w := W2) (b := W1.heap.size) (o := 0) (fun q c hq => by rw [cell_hp m2, Nat.zero_add]; simpa using hq)
    have hcl := hf j x y hx hy W2 c0 c1 d0 d1 (bw.trans (B2.mono bw.size)) (hp.same _ _ _ _ _ hp1 B2.size (fun b _ hl => B2.block b hl)) (hp.same _ _ _ _ _ hp2 B2.size (fun b _ hl => B2.block b hl))
    rw [← hW1] at N1
    rw [← hW2] at N2
    obtain ⟨r, hr⟩ : ∃ r, r = eq x y := ⟨_, rfl⟩
    rw [← hr] at hcl
    have HF := hide (And.intro hx (And.intro hy (And.intro hall (And.intro (bw.trans (B2.mono bw.size)) hr))))
    clear ha hb hf bw hall hx hy hc1' hc2' hp1 hp2 hl1 hl2 h1 h2 hW1 hW2 s1 B1 B2 m1 m2 m3 hn1 hn2 HA HV hb1 hb2 hr HB
    cases r with
    | true =>
     go_wp2_with fail
     refine hcl.mono ?_
     clear hcl
     rintro en w4 ⟨rfl, b4⟩
     have B4 := hide b4
     clear b4 L1 N1 L2 N2 L3 L4
     go_wp2_with fail
     go_roundw
     case rel =>
      obtain ⟨hx, hy, hall, bw, hr⟩ := unhide HF
      refine ⟨j + 1, by go_num, by omega, hide ⟨bw.trans ((unhide B4).mono bw.size), fun q x' y' hq hx' hy' => ?_⟩⟩
      by_cases e : q = j
      ·
       subst e
       rw [hx] at hx'
       rw [hy] at hy'
       cases hx'
       cases hy'
       exact hr.symm
      · exact hall q x' y' (by omega) hx' hy'
     case measure => simp [intOf]; omega
    | false =>
     go_wp2_with fail
     refine hcl.mono ?_
     clear hcl
     rintro en w4 ⟨rfl, b4⟩
     have B4 := hide b4
     clear b4 L1 N1 L2 N2 L3 L4
     go_wp2_with fail
     go_ret
     obtain ⟨hx, hy, hall, bw, hr⟩ := unhide HF
     exact ⟨by rw [eqL_false hx hy hr.symm]; rfl, bw.trans ((unhide B4).mono bw.size)⟩
   ·
    obtain ⟨bw, hall⟩ := unhide HB
    have HF := hide (And.intro bw hall)
    clear bw hall HB
    go_wp2_with fail
    go_ret
    obtain ⟨bw, hall⟩ := unhide HF
    obtain ⟨_, _, _, hn1, hn2⟩ := unhide HA
    exact ⟨by rw [eqL_true (by omega) (fun q x' y' hx' hy' => hall q x' y' (by have := (List.getElem?_eq_some_iff.1 hx').1; omega) hx' hy')]; rfl, bw⟩
 ·
  have hne : ((n1 : Int) != (n2 : Int)) = true := by simp; omega
  go_enter Tryz.func61, Tryz.ntmps61
  go_wp2_with fail
  go_ret
  obtain ⟨_, _, _, hn1, hn2⟩ := unhide HA
  exact ⟨by rw [eqL_len (by omega)]; rfl, Below.refl _ _⟩
end Go.Proofs.YtdjehbdpcdikkaaGreatDoor

namespace Go.Proofs.YtdjehbdpcdikkaaGreatDoor
open Go.RowKit Go.Maps

def qtLoad (a : Value) : Sem Value := Instr.loadAt 61 a
theorem loadAt_qt (a : Value) : Instr.loadAt 61 a = qtLoad a := rfl
def qtStore (p v : Value) : Sem Unit := Instr.storeAt 61 p v
theorem storeAt_qt (p v : Value) : Instr.storeAt 61 p v = qtStore p v := rfl
theorem size_qt : (Tryz.prog.info? 61).map (·.size) = some 4 := by kernel_rfl
theorem qt_load {w : World} {b o : Nat} {c0 c1 c2 c3 : Value} (h : ∀ q c, ([c0, c1, c2, c3] : List Value)[q]? = some c → w.cell? ⟨b, o + q, none⟩ = some c) : (qtLoad (.pointer (some ⟨b, o, none⟩))).run Tryz.prog w = .ok (.agg #[c0, c1, c2, c3]) w :=
 run_loadAt_mid w b o 61 [c0, c1, c2, c3] _ (fun q v hq => h q v hq) Tryz.underlying61 rfl size_qt
theorem qt_new (w : World) {c0 c1 c2 c3 : Value} (h1 : ∀ c ∈ ([c0, c1, c2, c3] : List Value), c.oneCell' = true) : (qtStore (.pointer (some ⟨w.heap.size, 0, none⟩)) (.agg #[c0, c1, c2, c3])).run Tryz.prog (w.alloc (.cells #[.string ⟨#[]⟩, .string ⟨#[]⟩, .slice none 0 0, .int .i64 0] 61)) = .ok () (w.alloc (.cells #[c0, c1, c2, c3] 61)) :=
 run_storeAt_new w 61 _ _ size_qt rfl (by simpa using h1)
theorem len_qt {cs : List Value} (h : cs.length = 4) : ∃ c0 c1 c2 c3, cs = [c0, c1, c2, c3] := by
 match cs, h with
 | [c0, c1, c2, c3], _ => exact ⟨c0, c1, c2, c3, rfl⟩
attribute [local go_sem ↓] loadAt_qt storeAt_qt
set_option maxRecDepth 100000 in
set_option maxHeartbeats 8000000 in
theorem eqf_t {α : Type} {p : PS α} (hp : PSok p) (hone : ∀ S w cs x, p S w cs x → ∀ c ∈ cs, c.oneCell' = true) {S : Nat → Prop} {w : World} {va vb : Value} {xs ys : List α} (eq : α → α → Bool) (ha : LsAt p 4 S w va xs) (hb : LsAt p 4 S w vb ys)
  (hf : ∀ (j : Nat) (x y : α), xs[j]? = some x → ys[j]? = some y → ∀ w' c0 c1 c2 c3 d0 d1 d2 d3, Below w.heap.size w w' → p S w' [c0, c1, c2, c3] x → p S w' [d0, d1, d2, d3] y → Calls Tryz.prog 24 #[.agg #[c0, c1, c2, c3], .agg #[d0, d1, d2, d3]] w' fun en w2 => en = .returned (.bool (eq x y)) ∧ Below w'.heap.size w' w2) :
  Calls Tryz.prog 23 #[va, vb, .func (.func 24) #[] #[]] w fun en w' => en = .returned (.bool (eqL eq xs ys)) ∧ Below w.heap.size w w' := by
 obtain ⟨a1, p1, e1⟩ := ha.sl
 obtain ⟨a2, p2, e2⟩ := hb.sl
 have hm1 : xs.length ≤ p1 ∧ p1 ≤ maxLen := by
  obtain ⟨_, _, _, e, h1, h2, _⟩ := ha
  rw [e] at e1
  cases e1
  exact ⟨h1, h2⟩
 have hm2 : ys.length ≤ p2 ∧ p2 ≤ maxLen := by
  obtain ⟨_, _, _, e, h1, h2, _⟩ := hb
  rw [e] at e2
  cases e2
  exact ⟨h1, h2⟩
 unfold maxLen at hm1 hm2
 obtain ⟨n1, hn1⟩ : ∃ n, xs.length = n := ⟨_, rfl⟩
 obtain ⟨n2, hn2⟩ : ∃ n, ys.length = n := ⟨_, rfl⟩
 rw [hn1] at e1 hm1
 rw [hn2] at e2 hm2
 obtain ⟨hc1, hc2⟩ := hm1
 obtain ⟨hc3, hc4⟩ := hm2
 have HA := hide (And.intro ha (And.intro hb (And.intro hf (And.intro hn1 hn2))))
 have HV := hide (And.intro e1 e2)
 rw [e1, e2]
 clear ha hb hf e1 e2 hn1 hn2
 by_cases hlen : n1 = n2
 ·
  subst hlen
  go_enter Tryz.func23, Tryz.ntmps23
  go_wp2_with fail
  go_loopw [17] (fun i wr => ∃ j : Nat, i = .int .i64 (j : Int) ∧ j ≤ n1 ∧ Hid (Below w.heap.size w wr ∧ ∀ q x y, q < j → xs[q]? = some x → ys[q]? = some y → eq x y = true)) (fun i _ => n1 - (intOf i).toNat)
  case atStart => exact ⟨0, rfl, Nat.zero_le _, hide ⟨Below.refl _ _, fun q _ _ hq => absurd hq (Nat.not_lt_zero _)⟩⟩
  case round =>
   obtain ⟨j, rfl, hj, HB⟩ := hrel
   by_cases hlt : j < n1
   ·
    obtain ⟨ha, hb, hf, hn1, hn2⟩ := unhide HA
    obtain ⟨bw, hall⟩ := unhide HB
    obtain ⟨x, hx⟩ : ∃ x, xs[j]? = some x := ⟨xs[j]'(by omega), List.getElem?_eq_getElem _⟩
    obtain ⟨y, hy⟩ : ∃ y, ys[j]? = some y := ⟨ys[j]'(by omega), List.getElem?_eq_getElem _⟩
    obtain ⟨b1, q1, cs1, ev1, hb1, _, hl1, hp1, hc1'⟩ := (ha.later hp bw).elem hx
    obtain ⟨b2, q2, cs2, ev2, hb2, _, hl2, hp2, hc2'⟩ := (hb.later hp bw).elem hy
    obtain ⟨c0, c1, c2, c3, rfl⟩ := len_qt hl1
    obtain ⟨d0, d1, d2, d3, rfl⟩ := len_qt hl2
    rw [(unhide HV).1, hn1] at ev1
    rw [(unhide HV).2, hn2] at ev2
    simp only [Value.slice.injEq] at ev1 ev2
    obtain ⟨rfl, -, -⟩ := ev1
    obtain ⟨rfl, -, -⟩ := ev2
    have h1 := hone _ _ _ _ hp1
    have h2 := hone _ _ _ _ hp2
    obtain ⟨W1, hW1⟩ : ∃ W1, W1 = wr.alloc (.cells #[c0, c1, c2, c3] 61) := ⟨_, rfl⟩
    obtain ⟨W2, hW2⟩ : ∃ W2, W2 = W1.alloc (.cells #[d0, d1, d2, d3] 61) := ⟨_, rfl⟩
    have s1 : W1.heap.size = wr.heap.size + 1 := by rw [hW1]; simp
    have B1 : Below wr.heap.size wr W1 := by rw [hW1]; exact (Below.refl _ wr).alloc (Nat.le_refl _) _
    have B2 : Below wr.heap.size wr W2 := by rw [hW2]; exact B1.alloc B1.size _
    have m1 : W1.heap[wr.heap.size]? = some (.cells #[c0, c1, c2, c3] 61 (0, 0)) := by rw [hW1]; exact heap_alloc_new wr _
    have m2 : W2.heap[W1.heap.size]? = some (.cells #[d0, d1, d2, d3] 61 (0, 0)) := by rw [hW2]; exact heap_alloc_new W1 _
    have m3 : W2.heap[wr.heap.size]? = some (.cells #[c0, c1, c2, c3] 61 (0, 0)) := by rw [hW2, Below.heap_alloc _ _ _ (by omega)]; exact m1
    have L1 := qt_load (w := wr) (b := b1) (o := j * 4) hc1'
    have N1 := qt_new wr h1
    have L2 := qt_load (w := W1) (b := b2) (o := j * 4) (fun q c hq => by rw [B1.cell (p := ⟨b2, _, none⟩) hb2]; exact hc2' q c hq)
    have N2 := qt_new W1 h2
    have L3 := qt_load (w := W2) (b := wr.heap.size) (o := 0) (fun q c hq => by rw [cell_hp m3, Nat.zero_add]; simpa using hq)
    have L4 := qt_load (w := W2) (b := W1.heap.size) (o := 0) (fun q c hq => by rw [cell_hp m2, Nat.zero_add]; simpa using hq)
    have hcl := hf j x y hx hy W2 c0 c1 c2 c3 d0 d1 d2 d3 (bw.trans (B2.mono bw.size)) (hp.same _ _ _ _ _ hp1 B2.size (fun b _ hl => B2.block b hl)) (hp.same _ _ _ _ _ hp2 B2.size (fun b _ hl => B2.block b hl))
    rw [← hW1] at N1
    rw [← hW2] at N2
    obtain ⟨r, hr⟩ : ∃ r, r = eq x y := ⟨_, rfl⟩
    rw [← hr] at hcl
    have HF := hide (And.intro hx (And.intro hy (And.intro hall (And.intro (bw.trans (B2.mono bw.size)) hr))))
    clear ha hb hf bw hall hx hy hc1' hc2' hp1 hp2 hl1 hl2 h1 h2 hW1 hW2 s1 B1 B2 m1 m2 m3 hn1 hn2 HA HV hb1 hb2 hr HB
    cases r with
    | true =>
     go_wp2_with fail
     refine hcl.mono ?_
     clear hcl
     rintro en w4 ⟨rfl, b4⟩
     have B4 := hide b4
     clear b4 L1 N1 L2 N2 L3 L4
     go_wp2_with fail
     go_roundw
     case rel =>
      obtain ⟨hx, hy, hall, bw, hr⟩ := unhide HF
      refine ⟨j + 1, by go_num, by omega, hide ⟨bw.trans ((unhide B4).mono bw.size), fun q x' y' hq hx' hy' => ?_⟩⟩
      by_cases e : q = j
      ·
       subst e
       rw [hx] at hx'
       rw [hy] at hy'
       cases hx'
       cases hy'
       exact hr.symm
      · exact hall q x' y' (by omega) hx' hy'
     case measure => simp [intOf]; omega
    | false =>
     go_wp2_with fail
     refine hcl.mono ?_
     clear hcl
     rintro en w4 ⟨rfl, b4⟩
     have B4 := hide b4
     clear b4 L1 N1 L2 N2 L3 L4
     go_wp2_with fail
     go_ret
     obtain ⟨hx, hy, hall, bw, hr⟩ := unhide HF
     exact ⟨by rw [eqL_false hx hy hr.symm]; rfl, bw.trans ((unhide B4).mono bw.size)⟩
   ·
    obtain ⟨bw, hall⟩ := unhide HB
    have HF := hide (And.intro bw hall)
    clear bw hall HB
    go_wp2_with fail
    go_ret
    obtain ⟨bw, hall⟩ := unhide HF
    obtain ⟨_, _, _, hn1, hn2⟩ := unhide HA
    exact ⟨by rw [eqL_true (by omega) (fun q x' y' hx' hy' => hall q x' y' (by have := (List.getElem?_eq_some_iff.1 hx').1; omega) hx' hy')]; rfl, bw⟩
 ·
  have hne : ((n1 : Int) != (n2 : Int)) = true := by simp; omega
  go_enter Tryz.func23, Tryz.ntmps23
  go_wp2_with fail
  go_ret
  obtain ⟨_, _, _, hn1, hn2⟩ := unhide HA
  exact ⟨by rw [eqL_len (by omega)]; rfl, Below.refl _ _⟩
end Go.Proofs.YtdjehbdpcdikkaaGreatDoor
