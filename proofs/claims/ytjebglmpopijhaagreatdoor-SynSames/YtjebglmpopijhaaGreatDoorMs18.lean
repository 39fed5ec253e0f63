/- slices.EqualFunc at Expr. slices.EqualFunc at Lit. slices.EqualFunc at Ctor. slices.EqualFunc at TypeDecl. slices.EqualFunc at Decl. -/
import Derived.Test.YtjebglmpopijhaaGreatDoorMs17
set_option maxRecDepth 100000
set_option maxHeartbeats 32000000
namespace Go.Proofs.YtjebglmpopijhaaGreatDoor
section
open Go.RowKit Go.Maps
def qeLoad (a : Value) : Sem Value := Instr.loadAt 88 a
theorem Qdl (a : Value) : Instr.loadAt 88 a = qeLoad a := rfl
def qeStore (p v : Value) : Sem Unit := Instr.storeAt 88 p v
theorem Qcv (p v : Value) : Instr.storeAt 88 p v = qeStore p v := rfl
theorem Qqz : (Tryz.prog.info? 88).map (·.size) = some 5 := by kernel_rfl
theorem Qfk {w : World} {b o : Nat} {c0 c1 c2 c3 c4 : Value} (h : ∀ q c, ([c0, c1, c2, c3, c4] : List Value)[q]? = some c → w.cell? ⟨b, o + q, none⟩ = some c) : (qeLoad (.pointer (some ⟨b, o, none⟩))).run Tryz.prog w = .ok (.agg #[c0, c1, c2, c3, c4]) w :=
 run_loadAt_mid w b o 88 [c0, c1, c2, c3, c4] _ (fun q v hq => h q v hq) Tryz.underlying88 rfl Qqz
theorem Qgq (w : World) {c0 c1 c2 c3 c4 : Value} (h1 : ∀ c ∈ ([c0, c1, c2, c3, c4] : List Value), c.oneCell' = true) : (qeStore (.pointer (some ⟨w.heap.size, 0, none⟩)) (.agg #[c0, c1, c2, c3, c4])).run Tryz.prog (w.alloc (.cells #[.int .i64 0, .int .i64 0, .string ⟨#[]⟩, .slice none 0 0, .int .i64 0] 88)) = .ok () (w.alloc (.cells #[c0, c1, c2, c3, c4] 88)) :=
 run_storeAt_new w 88 _ _ Qqz rfl (by simpa using h1)
theorem Qlv {cs : List Value} (h : cs.length = 5) : ∃ c0 c1 c2 c3 c4, cs = [c0, c1, c2, c3, c4] := by
 match cs, h with
 | [c0, c1, c2, c3, c4], _ => exact ⟨c0, c1, c2, c3, c4, rfl⟩
attribute [local go_sem ↓] Qdl Qcv
theorem eqf_e {α : Type} {p : PS α} (hp : PSok p) (hone : ∀ S w cs x, p S w cs x → ∀ c ∈ cs, c.oneCell' = true) {S : Nat → Prop} {w : World} {va vb : Value} {xs ys : List α} (eq : α → α → Bool) (ha : LsAt p 5 S w va xs) (hb : LsAt p 5 S w vb ys)
  (hf : ∀ (j : Nat) (x y : α), xs[j]? = some x → ys[j]? = some y → ∀ w' c0 c1 c2 c3 c4 d0 d1 d2 d3 d4, Below w.heap.size w w' → p S w' [c0, c1, c2, c3, c4] x → p S w' [d0, d1, d2, d3, d4] y → Calls Tryz.prog 92 #[.agg #[c0, c1, c2, c3, c4], .agg #[d0, d1, d2, d3, d4]] w' fun en w2 => en = .returned (.bool (eq x y)) ∧ Below w'.heap.size w' w2) :
  Calls Tryz.prog 91 #[va, vb, .func (.func 92) #[] #[]] w fun en w' => en = .returned (.bool (eqL eq xs ys)) ∧ Below w.heap.size w w' := by
 obtain ⟨a1, p1, e1⟩ := ha.sl
 obtain ⟨a2, p2, e2⟩ := hb.sl
 have hm1 : xs.length ≤ p1 ∧ p1 ≤ maxLen := by
  obtain ⟨_, _, _, e, h1, h2, _⟩ := ha
  rw [e] at e1
  cases e1
  exact ⟨h1, h2⟩
 have hm2 : ys.length ≤ p2 ∧ p2 ≤ maxLen := by
  obtain ⟨_, _, _, e, h1, h2, _⟩ := hb
  rw [e] at e2
  cases e2
  exact ⟨h1, h2⟩
 unfold maxLen at hm1 hm2
 obtain ⟨n1, hn1⟩ : ∃ n, xs.length = n := ⟨_, rfl⟩
 obtain ⟨n2, hn2⟩ : ∃ n, ys.length = n := ⟨_, rfl⟩
 rw [hn1] at e1 hm1
 rw [hn2] at e2 hm2
 obtain ⟨hc1, hc2⟩ := hm1
 obtain ⟨hc3, hc4⟩ := hm2
 have HA := hide (Ya ha (Ya hb (Ya hf (Ya hn1 hn2))))
 have HV := hide (Ya e1 e2)
 rw [e1, e2]
 clear ha hb hf e1 e2 hn1 hn2
 by_cases hlen : n1 = n2
 ·
  subst hlen
  go_enter Tryz.func91, Tryz.ntmps91
  go_wp2_with fail
  go_loopw [17] (fun i wr => ∃ j : Nat, i = .int .i64 (j : Int) ∧ j ≤ n1 ∧ Hid (Below w.heap.size w wr ∧ ∀ q x y, q < j → xs[q]? = some x → ys[q]? = some y → eq x y = true)) (fun i _ => n1 - (intOf i).toNat)
  case atStart => exact ⟨0, rfl, Nat.zero_le _, hide ⟨Below.refl _ _, fun q _ _ hq => absurd hq (Nat.not_lt_zero _)⟩⟩
  obtain ⟨j, rfl, hj, HB⟩ := hrel
  by_cases hlt : j < n1
  ·
   obtain ⟨ha, hb, hf, hn1, hn2⟩ := Qa HA
   obtain ⟨bw, hall⟩ := Qa HB
   obtain ⟨x, hx⟩ : ∃ x, xs[j]? = some x := ⟨xs[j]'(by omega), List.getElem?_eq_getElem _⟩
   obtain ⟨y, hy⟩ : ∃ y, ys[j]? = some y := ⟨ys[j]'(by omega), List.getElem?_eq_getElem _⟩
   obtain ⟨b1, q1, cs1, ev1, hb1, _, hl1, hp1, hc1'⟩ := (ha.later hp bw).elem hx
   obtain ⟨b2, q2, cs2, ev2, hb2, _, hl2, hp2, hc2'⟩ := (hb.later hp bw).elem hy
   obtain ⟨c0, c1, c2, c3, c4, rfl⟩ := Qlv hl1
   obtain ⟨d0, d1, d2, d3, d4, rfl⟩ := Qlv hl2
   rw [(Qa HV).1, hn1] at ev1
   rw [(Qa HV).2, hn2] at ev2
   simp only [Value.slice.injEq] at ev1 ev2
   obtain ⟨rfl, -, -⟩ := ev1
   obtain ⟨rfl, -, -⟩ := ev2
   have h1 := hone _ _ _ _ hp1
   have h2 := hone _ _ _ _ hp2
   obtain ⟨W1, hW1⟩ : ∃ W1, W1 = wr.alloc (.cells #[c0, c1, c2, c3, c4] 88) := ⟨_, rfl⟩
   obtain ⟨W2, hW2⟩ : ∃ W2, W2 = W1.alloc (.cells #[d0, d1, d2, d3, d4] 88) := ⟨_, rfl⟩
   have s1 : W1.heap.size = wr.heap.size + 1 := by rw [hW1]; simp
   have B1 : Below wr.heap.size wr W1 := by rw [hW1]; exact (Below.refl _ wr).alloc (Nat.le_refl _) _
   have B2 : Below wr.heap.size wr W2 := by rw [hW2]; exact B1.alloc B1.size _
   have m1 : W1.heap[wr.heap.size]? = some (.cells #[c0, c1, c2, c3, c4] 88 (0, 0)) := by rw [hW1]; exact heap_alloc_new wr _
   have m2 : W2.heap[W1.heap.size]? = some (.cells #[d0, d1, d2, d3, d4] 88 (0, 0)) := by rw [hW2]; exact heap_alloc_new W1 _
   have m3 : W2.heap[wr.heap.size]? = some (.cells #[c0, c1, c2, c3, c4] 88 (0, 0)) := by rw [hW2, Below.heap_alloc _ _ _ (by omega)]; exact m1
   have L1 := Qfk (w := wr) (b := b1) (o := j * 5) hc1'
   have N1 := Qgq wr h1
   have L2 := Qfk (w := W1) (b := b2) (o := j * 5) (fun q c hq => by rw [B1.cell (p := ⟨b2, _, none⟩) hb2]; exact hc2' q c hq)
   have N2 := Qgq W1 h2
   have L3 := Qfk (w := W2) (b := wr.heap.size) (o := 0) (fun q c hq => by rw [Qad m3, Nat.zero_add]; simpa using hq)
   have L4 := Qfk (w := W2) (b := W1.heap.size) (o := 0) (fun q c hq => by rw [Qad m2, Nat.zero_add]; simpa using hq)
   have hcl := hf j x y hx hy W2 c0 c1 c2 c3 c4 d0 d1 d2 d3 d4 (bw.trans (B2.mono bw.size)) (hp.same _ _ _ _ _ hp1 B2.size (fun b _ hl => B2.block b hl)) (hp.same _ _ _ _ _ hp2 B2.size (fun b _ hl => B2.block b hl))
   rw [← hW1] at N1
   rw [← hW2] at N2
   obtain ⟨r, hr⟩ : ∃ r, r = eq x y := ⟨_, rfl⟩
   rw [← hr] at hcl
   have HF := hide (Ya hx (Ya hy (Ya hall (Ya (bw.trans (B2.mono bw.size)) hr))))
   clear ha hb hf bw hall hx hy hc1' hc2' hp1 hp2 hl1 hl2 h1 h2 hW1 hW2 s1 B1 B2 m1 m2 m3 hn1 hn2 HA HV hb1 hb2 hr HB
   cases r
   ·
    go_wp2_with fail
    refine hcl.mono ?_
    clear hcl
    rintro en w4 ⟨rfl, b4⟩
    have B4 := hide b4
    clear b4 L1 N1 L2 N2 L3 L4
    go_wp2_with fail
    go_ret
    obtain ⟨hx, hy, hall, bw, hr⟩ := Qa HF
    exact ⟨by rw [Qal hx hy hr.symm]; rfl, bw.trans ((Qa B4).mono bw.size)⟩
   go_wp2_with fail
   refine hcl.mono ?_
   clear hcl
   rintro en w4 ⟨rfl, b4⟩
   have B4 := hide b4
   clear b4 L1 N1 L2 N2 L3 L4
   go_wp2_with fail
   go_roundw
   case rel =>
    obtain ⟨hx, hy, hall, bw, hr⟩ := Qa HF
    refine ⟨j + 1, by go_num, by omega, hide ⟨bw.trans ((Qa B4).mono bw.size), fun q x' y' hq hx' hy' => ?_⟩⟩
    by_cases e : q = j
    ·
     subst e
     rw [hx] at hx'
     rw [hy] at hy'
     cases hx'
     cases hy'
     exact hr.symm
    · exact hall q x' y' (by omega) hx' hy'
   case measure => simp [intOf]; omega
  obtain ⟨bw, hall⟩ := Qa HB
  have HF := hide (Ya bw hall)
  clear bw hall HB
  go_wp2_with fail
  go_ret
  obtain ⟨bw, hall⟩ := Qa HF
  obtain ⟨_, _, _, hn1, hn2⟩ := Qa HA
  exact ⟨by rw [Qbd (by omega) (fun q x' y' hx' hy' => hall q x' y' (by have := (List.getElem?_eq_some_iff.1 hx').1; omega) hx' hy')]; rfl, bw⟩
 have hne : ((n1 : Int) != (n2 : Int)) = true := by simp; omega
 go_enter Tryz.func91, Tryz.ntmps91
 go_wp2_with fail
 go_ret
 obtain ⟨_, _, _, hn1, hn2⟩ := Qa HA
 exact ⟨by rw [Qbw (by omega)]; rfl, Below.refl _ _⟩
end
section
open Go.RowKit Go.Maps
def qlLoad (a : Value) : Sem Value := Instr.loadAt 90 a
theorem Qje (a : Value) : Instr.loadAt 90 a = qlLoad a := rfl
def qlStore (p v : Value) : Sem Unit := Instr.storeAt 90 p v
theorem Qhm (p v : Value) : Instr.storeAt 90 p v = qlStore p v := rfl
theorem Qlb : (Tryz.prog.info? 90).map (·.size) = some 16 := by kernel_rfl
theorem Qfl {w : World} {b o : Nat} {c0 c1 c2 c3 c4 c5 c6 c7 c8 c9 c10 c11 c12 c13 c14 c15 : Value} (h : ∀ q c, ([c0, c1, c2, c3, c4, c5, c6, c7, c8, c9, c10, c11, c12, c13, c14, c15] : List Value)[q]? = some c → w.cell? ⟨b, o + q, none⟩ = some c) : (qlLoad (.pointer (some ⟨b, o, none⟩))).run Tryz.prog w = .ok (.agg #[c0, c1, c2, c3, c4, c5, c6, c7, c8, c9, c10, c11, c12, c13, c14, c15]) w :=
 run_loadAt_mid w b o 90 [c0, c1, c2, c3, c4, c5, c6, c7, c8, c9, c10, c11, c12, c13, c14, c15] _ (fun q v hq => h q v hq) Tryz.underlying90 rfl Qlb
theorem Qtp (w : World) {c0 c1 c2 c3 c4 c5 c6 c7 c8 c9 c10 c11 c12 c13 c14 c15 : Value} (h1 : ∀ c ∈ ([c0, c1, c2, c3, c4, c5, c6, c7, c8, c9, c10, c11, c12, c13, c14, c15] : List Value), c.oneCell' = true) : (qlStore (.pointer (some ⟨w.heap.size, 0, none⟩)) (.agg #[c0, c1, c2, c3, c4, c5, c6, c7, c8, c9, c10, c11, c12, c13, c14, c15])).run Tryz.prog (w.alloc (.cells #[.int .i64 0, .string ⟨#[]⟩, .slice none 0 0, .int .i64 0, .string ⟨#[]⟩, .int .i64 0, .int .i64 0, .string ⟨#[]⟩, .slice none 0 0, .int .i64 0, .int .i64 0, .int .i64 0, .string ⟨#[]⟩, .slice none 0 0, .int .i64 0, .int .i64 0] 90)) = .ok () (w.alloc (.cells #[c0, c1, c2, c3, c4, c5, c6, c7, c8, c9, c10, c11, c12, c13, c14, c15] 90)) :=
 run_storeAt_new w 90 _ _ Qlb rfl (by simpa using h1)
theorem Qte {cs : List Value} (h : cs.length = 16) : ∃ c0 c1 c2 c3 c4 c5 c6 c7 c8 c9 c10 c11 c12 c13 c14 c15, cs = [c0, c1, c2, c3, c4, c5, c6, c7, c8, c9, c10, c11, c12, c13, c14, c15] := by
 match cs, h with
 | [c0, c1, c2, c3, c4, c5, c6, c7, c8, c9, c10, c11, c12, c13, c14, c15], _ => exact ⟨c0, c1, c2, c3, c4, c5, c6, c7, c8, c9, c10, c11, c12, c13, c14, c15, rfl⟩
attribute [local go_sem ↓] Qje Qhm
theorem eqf_l {α : Type} {p : PS α} (hp : PSok p) (hone : ∀ S w cs x, p S w cs x → ∀ c ∈ cs, c.oneCell' = true) {S : Nat → Prop} {w : World} {va vb : Value} {xs ys : List α} (eq : α → α → Bool) (ha : LsAt p 16 S w va xs) (hb : LsAt p 16 S w vb ys)
  (hf : ∀ (j : Nat) (x y : α), xs[j]? = some x → ys[j]? = some y → ∀ w' c0 c1 c2 c3 c4 c5 c6 c7 c8 c9 c10 c11 c12 c13 c14 c15 d0 d1 d2 d3 d4 d5 d6 d7 d8 d9 d10 d11 d12 d13 d14 d15, Below w.heap.size w w' → p S w' [c0, c1, c2, c3, c4, c5, c6, c7, c8, c9, c10, c11, c12, c13, c14, c15] x → p S w' [d0, d1, d2, d3, d4, d5, d6, d7, d8, d9, d10, d11, d12, d13, d14, d15] y → Calls Tryz.prog 64 #[.agg #[c0, c1, c2, c3, c4, c5, c6, c7, c8, c9, c10, c11, c12, c13, c14, c15], .agg #[d0, d1, d2, d3, d4, d5, d6, d7, d8, d9, d10, d11, d12, d13, d14, d15]] w' fun en w2 => en = .returned (.bool (eq x y)) ∧ Below w'.heap.size w' w2) :
  Calls Tryz.prog 63 #[va, vb, .func (.func 64) #[] #[]] w fun en w' => en = .returned (.bool (eqL eq xs ys)) ∧ Below w.heap.size w w' := by
 obtain ⟨a1, p1, e1⟩ := ha.sl
 obtain ⟨a2, p2, e2⟩ := hb.sl
 have hm1 : xs.length ≤ p1 ∧ p1 ≤ maxLen := by
  obtain ⟨_, _, _, e, h1, h2, _⟩ := ha
  rw [e] at e1
  cases e1
  exact ⟨h1, h2⟩
 have hm2 : ys.length ≤ p2 ∧ p2 ≤ maxLen := by
  obtain ⟨_, _, _, e, h1, h2, _⟩ := hb
  rw [e] at e2
  cases e2
  exact ⟨h1, h2⟩
 unfold maxLen at hm1 hm2
 obtain ⟨n1, hn1⟩ : ∃ n, xs.length = n := ⟨_, rfl⟩
 obtain ⟨n2, hn2⟩ : ∃ n, ys.length = n := ⟨_, rfl⟩
 rw [hn1] at e1 hm1
 rw [hn2] at e2 hm2
 obtain ⟨hc1, hc2⟩ := hm1
 obtain ⟨hc3, hc4⟩ := hm2
 have HA := hide (Ya ha (Ya hb (Ya hf (Ya hn1 hn2))))
 have HV := hide (Ya e1 e2)
 rw [e1, e2]
 clear ha hb hf e1 e2 hn1 hn2
 by_cases hlen : n1 = n2
 ·
  subst hlen
  go_enter Tryz.func63, Tryz.ntmps63
  go_wp2_with fail
  go_loopw [17] (fun i wr => ∃ j : Nat, i = .int .i64 (j : Int) ∧ j ≤ n1 ∧ Hid (Below w.heap.size w wr ∧ ∀ q x y, q < j → xs[q]? = some x → ys[q]? = some y → eq x y = true)) (fun i _ => n1 - (intOf i).toNat)
  case atStart => exact ⟨0, rfl, Nat.zero_le _, hide ⟨Below.refl _ _, fun q _ _ hq => absurd hq (Nat.not_lt_zero _)⟩⟩
  obtain ⟨j, rfl, hj, HB⟩ := hrel
  by_cases hlt : j < n1
  ·
   obtain ⟨ha, hb, hf, hn1, hn2⟩ := Qa HA
   obtain ⟨bw, hall⟩ := Qa HB
   obtain ⟨x, hx⟩ : ∃ x, xs[j]? = some x := ⟨xs[j]'(by omega), List.getElem?_eq_getElem _⟩
   obtain ⟨y, hy⟩ : ∃ y, ys[j]? = some y := ⟨ys[j]'(by omega), List.getElem?_eq_getElem _⟩
   obtain ⟨b1, q1, cs1, ev1, hb1, _, hl1, hp1, hc1'⟩ := (ha.later hp bw).elem hx
   obtain ⟨b2, q2, cs2, ev2, hb2, _, hl2, hp2, hc2'⟩ := (hb.later hp bw).elem hy
   obtain ⟨c0, c1, c2, c3, c4, c5, c6, c7, c8, c9, c10, c11, c12, c13, c14, c15, rfl⟩ := Qte hl1
   obtain ⟨d0, d1, d2, d3, d4, d5, d6, d7, d8, d9, d10, d11, d12, d13, d14, d15, rfl⟩ := Qte hl2
   rw [(Qa HV).1, hn1] at ev1
   rw [(Qa HV).2, hn2] at ev2
   simp only [Value.slice.injEq] at ev1 ev2
   obtain ⟨rfl, -, -⟩ := ev1
   obtain ⟨rfl, -, -⟩ := ev2
   have h1 := hone _ _ _ _ hp1
   have h2 := hone _ _ _ _ hp2
   obtain ⟨W1, hW1⟩ : ∃ W1, W1 = wr.alloc (.cells #[c0, c1, c2, c3, c4, c5, c6, c7, c8, c9, c10, c11, c12, c13, c14, c15] 90) := ⟨_, rfl⟩
   obtain ⟨W2, hW2⟩ : ∃ W2, W2 = W1.alloc (.cells #[d0, d1, d2, d3, d4, d5, d6, d7, d8, d9, d10, d11, d12, d13, d14, d15] 90) := ⟨_, rfl⟩
   have s1 : W1.heap.size = wr.heap.size + 1 := by rw [hW1]; simp
   have B1 : Below wr.heap.size wr W1 := by rw [hW1]; exact (Below.refl _ wr).alloc (Nat.le_refl _) _
   have B2 : Below wr.heap.size wr W2 := by rw [hW2]; exact B1.alloc B1.size _
   have m1 : W1.heap[wr.heap.size]? = some (.cells #[c0, c1, c2, c3, c4, c5, c6, c7, c8, c9, c10, c11, c12, c13, c14, c15] 90 (0, 0)) := by rw [hW1]; exact heap_alloc_new wr _
   have m2 : W2.heap[W1.heap.size]? = some (.cells #[d0, d1, d2, d3, d4, d5, d6, d7, d8, d9, d10, d11, d12, d13, d14, d15] 90 (0, 0)) := by rw [hW2]; exact heap_alloc_new W1 _
   have m3 : W2.heap[wr.heap.size]? = some (.cells #[c0, c1, c2, c3, c4, c5, c6, c7, c8, c9, c10, c11, c12, c13, c14, c15] 90 (0, 0)) := by rw [hW2, Below.heap_alloc _ _ _ (by omega)]; exact m1
   have L1 := Qfl (w := wr) (b := b1) (o := j * 16) hc1'
   have N1 := Qtp wr h1
   have L2 := Qfl (w := W1) (b := b2) (o := j * 16) (fun q c hq => by rw [B1.cell (p := ⟨b2, _, none⟩) hb2]; exact hc2' q c hq)
   have N2 := Qtp W1 h2
   have L3 := Qfl (w := W2) (b := wr.heap.size) (o := 0) (fun q c hq => by rw [Qad m3, Nat.zero_add]; simpa using hq)
   have L4 := Qfl (w := W2) (b := W1.heap.size) (o := 0) (fun q c hq => by rw [Qad m2, Nat.zero_add]; simpa using hq)
   have hcl := hf j x y hx hy W2 c0 c1 c2 c3 c4 c5 c6 c7 c8 c9 c10 c11 c12 c13 c14 c15 d0 d1 d2 d3 d4 d5 d6 d7 d8 d9 d10 d11 d12 d13 d14 d15 (bw.trans (B2.mono bw.size)) (hp.same _ _ _ _ _ hp1 B2.size (fun b _ hl => B2.block b hl)) (hp.same _ _ _ _ _ hp2 B2.size (fun b _ hl => B2.block b hl))
   rw [← hW1] at N1
   rw [← hW2] at N2
   obtain ⟨r, hr⟩ : ∃ r, r = eq x y := ⟨_, rfl⟩
   rw [← hr] at hcl
   have HF := hide (Ya hx (Ya hy (Ya hall (Ya (bw.trans (B2.mono bw.size)) hr))))
   clear ha hb hf bw hall hx hy hc1' hc2' hp1 hp2 hl1 hl2 h1 h2 hW1 hW2 s1 B1 B2 m1 m2 m3 hn1 hn2 HA HV hb1 hb2 hr HB
   cases r
   ·
    go_wp2_with fail
    refine hcl.mono ?_
    clear hcl
    rintro en w4 ⟨rfl, b4⟩
    have B4 := hide b4
    clear b4 L1 N1 L2 N2 L3 L4
    go_wp2_with fail
    go_ret
    obtain ⟨hx, hy, hall, bw, hr⟩ := Qa HF
    exact ⟨by rw [Qal hx hy hr.symm]; rfl, bw.trans ((Qa B4).mono bw.size)⟩
   go_wp2_with fail
   refine hcl.mono ?_
   clear hcl
   rintro en w4 ⟨rfl, b4⟩
   have B4 := hide b4
   clear b4 L1 N1 L2 N2 L3 L4
   go_wp2_with fail
   go_roundw
   case rel =>
    obtain ⟨hx, hy, hall, bw, hr⟩ := Qa HF
    refine ⟨j + 1, by go_num, by omega, hide ⟨bw.trans ((Qa B4).mono bw.size), fun q x' y' hq hx' hy' => ?_⟩⟩
    by_cases e : q = j
    ·
     subst e
     rw [hx] at hx'
     rw [hy] at hy'
     cases hx'
     cases hy'
     exact hr.symm
    · exact hall q x' y' (by omega) hx' hy'
   case measure => simp [intOf]; omega
  obtain ⟨bw, hall⟩ := Qa HB
  have HF := hide (Ya bw hall)
  clear bw hall HB
  go_wp2_with fail
  go_ret
  obtain ⟨bw, hall⟩ := Qa HF
  obtain ⟨_, _, _, hn1, hn2⟩ := Qa HA
  exact ⟨by rw [Qbd (by omega) (fun q x' y' hx' hy' => hall q x' y' (by have := (List.getElem?_eq_some_iff.1 hx').1; omega) hx' hy')]; rfl, bw⟩
 have hne : ((n1 : Int) != (n2 : Int)) = true := by simp; omega
 go_enter Tryz.func63, Tryz.ntmps63
 go_wp2_with fail
 go_ret
 obtain ⟨_, _, _, hn1, hn2⟩ := Qa HA
 exact ⟨by rw [Qbw (by omega)]; rfl, Below.refl _ _⟩
end
section
open Go.RowKit Go.Maps
def qcLoad (a : Value) : Sem Value := Instr.loadAt 118 a
theorem Qpd (a : Value) : Instr.loadAt 118 a = qcLoad a := rfl
def qcStore (p v : Value) : Sem Unit := Instr.storeAt 118 p v
theorem Qnc (p v : Value) : Instr.storeAt 118 p v = qcStore p v := rfl
theorem Qqx : (Tryz.prog.info? 118).map (·.size) = some 2 := by kernel_rfl
theorem Qib {w : World} {b o : Nat} {c0 c1 : Value} (h : ∀ q c, ([c0, c1] : List Value)[q]? = some c → w.cell? ⟨b, o + q, none⟩ = some c) : (qcLoad (.pointer (some ⟨b, o, none⟩))).run Tryz.prog w = .ok (.agg #[c0, c1]) w :=
 run_loadAt_mid w b o 118 [c0, c1] _ (fun q v hq => h q v hq) Tryz.underlying118 rfl Qqx
theorem Qtm (w : World) {c0 c1 : Value} (h1 : ∀ c ∈ ([c0, c1] : List Value), c.oneCell' = true) : (qcStore (.pointer (some ⟨w.heap.size, 0, none⟩)) (.agg #[c0, c1])).run Tryz.prog (w.alloc (.cells #[.string ⟨#[]⟩, .slice none 0 0] 118)) = .ok () (w.alloc (.cells #[c0, c1] 118)) :=
 run_storeAt_new w 118 _ _ Qqx rfl (by simpa using h1)
theorem Qtc {cs : List Value} (h : cs.length = 2) : ∃ c0 c1, cs = [c0, c1] := by
 match cs, h with
 | [c0, c1], _ => exact ⟨c0, c1, rfl⟩
attribute [local go_sem ↓] Qpd Qnc
theorem eqf_c {α : Type} {p : PS α} (hp : PSok p) (hone : ∀ S w cs x, p S w cs x → ∀ c ∈ cs, c.oneCell' = true) {S : Nat → Prop} {w : World} {va vb : Value} {xs ys : List α} (eq : α → α → Bool) (ha : LsAt p 2 S w va xs) (hb : LsAt p 2 S w vb ys)
  (hf : ∀ (j : Nat) (x y : α), xs[j]? = some x → ys[j]? = some y → ∀ w' c0 c1 d0 d1, Below w.heap.size w w' → p S w' [c0, c1] x → p S w' [d0, d1] y → Calls Tryz.prog 59 #[.agg #[c0, c1], .agg #[d0, d1]] w' fun en w2 => en = .returned (.bool (eq x y)) ∧ Below w'.heap.size w' w2) :
  Calls Tryz.prog 58 #[va, vb, .func (.func 59) #[] #[]] w fun en w' => en = .returned (.bool (eqL eq xs ys)) ∧ Below w.heap.size w w' := by
 obtain ⟨a1, p1, e1⟩ := ha.sl
 obtain ⟨a2, p2, e2⟩ := hb.sl
 have hm1 : xs.length ≤ p1 ∧ p1 ≤ maxLen := by
  obtain ⟨_, _, _, e, h1, h2, _⟩ := ha
  rw [e] at e1
  cases e1
  exact ⟨h1, h2⟩
 have hm2 : ys.length ≤ p2 ∧ p2 ≤ maxLen := by
  obtain ⟨_, _, _, e, h1, h2, _⟩ := hb
  rw [e] at e2
  cases e2
  exact ⟨h1, h2⟩
 unfold maxLen at hm1 hm2
 obtain ⟨n1, hn1⟩ : ∃ n, xs.length = n := ⟨_, rfl⟩
 obtain ⟨n2, hn2⟩ : ∃ n, ys.length = n := ⟨_, rfl⟩
 rw [hn1] at e1 hm1
 rw [hn2] at e2 hm2
 obtain ⟨hc1, hc2⟩ := hm1
 obtain ⟨hc3, hc4⟩ := hm2
 have HA := hide (Ya ha (Ya hb (Ya hf (Ya hn1 hn2))))
 have HV := hide (Ya e1 e2)
 rw [e1, e2]
 clear ha hb hf e1 e2 hn1 hn2
 by_cases hlen : n1 = n2
 ·
  subst hlen
  go_enter Tryz.func58, Tryz.ntmps58
  go_wp2_with fail
  go_loopw [17] (fun i wr => ∃ j : Nat, i = .int .i64 (j : Int) ∧ j ≤ n1 ∧ Hid (Below w.heap.size w wr ∧ ∀ q x y, q < j → xs[q]? = some x → ys[q]? = some y → eq x y = true)) (fun i _ => n1 - (intOf i).toNat)
  case atStart => exact ⟨0, rfl, Nat.zero_le _, hide ⟨Below.refl _ _, fun q _ _ hq => absurd hq (Nat.not_lt_zero _)⟩⟩
  obtain ⟨j, rfl, hj, HB⟩ := hrel
  by_cases hlt : j < n1
  ·
   obtain ⟨ha, hb, hf, hn1, hn2⟩ := Qa HA
   obtain ⟨bw, hall⟩ := Qa HB
   obtain ⟨x, hx⟩ : ∃ x, xs[j]? = some x := ⟨xs[j]'(by omega), List.getElem?_eq_getElem _⟩
   obtain ⟨y, hy⟩ : ∃ y, ys[j]? = some y := ⟨ys[j]'(by omega), List.getElem?_eq_getElem _⟩
   obtain ⟨b1, q1, cs1, ev1, hb1, _, hl1, hp1, hc1'⟩ := (ha.later hp bw).elem hx
   obtain ⟨b2, q2, cs2, ev2, hb2, _, hl2, hp2, hc2'⟩ := (hb.later hp bw).elem hy
   obtain ⟨c0, c1, rfl⟩ := Qtc hl1
   obtain ⟨d0, d1, rfl⟩ := Qtc hl2
   rw [(Qa HV).1, hn1] at ev1
   rw [(Qa HV).2, hn2] at ev2
   simp only [Value.slice.injEq] at ev1 ev2
   obtain ⟨rfl, -, -⟩ := ev1
   obtain ⟨rfl, -, -⟩ := ev2
   have h1 := hone _ _ _ _ hp1
   have h2 := hone _ _ _ _ hp2
   obtain ⟨W1, hW1⟩ : ∃ W1, W1 = wr.alloc (.cells #[c0, c1] 118) := ⟨_, rfl⟩
   obtain ⟨W2, hW2⟩ : ∃ W2, W2 = W1.alloc (.cells #[d0, d1] 118) := ⟨_, rfl⟩
   have s1 : W1.heap.size = wr.heap.size + 1 := by rw [hW1]; simp
   have B1 : Below wr.heap.size wr W1 := by rw [hW1]; exact (Below.refl _ wr).alloc (Nat.le_refl _) _
   have B2 : Below wr.heap.size wr W2 := by rw [hW2]; exact B1.alloc B1.size _
   have m1 : W1.heap[wr.heap.size]? = some (.cells #[c0, c1] 118 (0, 0)) := by rw [hW1]; exact heap_alloc_new wr _
   have m2 : W2.heap[W1.heap.size]? = some (.cells #[d0, d1] 118 (0, 0)) := by rw [hW2]; exact heap_alloc_new W1 _
   have m3 : W2.heap[wr.heap.size]? = some (.cells #[c0, c1] 118 (0, 0)) := by rw [hW2, Below.heap_alloc _ _ _ (by omega)]; exact m1
   have L1 := Qib (w := wr) (b := b1) (o := j * 2) hc1'
   have N1 := Qtm wr h1
   have L2 := Qib (w := W1) (b := b2) (o := j * 2) (fun q c hq => by rw [B1.cell (p := ⟨b2, _, none⟩) hb2]; exact hc2' q c hq)
   have N2 := Qtm W1 h2
   have L3 := Qib (w := W2) (b := wr.heap.size) (o := 0) (fun q c hq => by rw [Qad m3, Nat.zero_add]; simpa using hq)
   have L4 := Qib (w := W2) (b := W1.heap.size) (o := 0) (fun q c hq => by rw [Qad m2, Nat.zero_add]; simpa using hq)
   have hcl := hf j x y hx hy W2 c0 c1 d0 d1 (bw.trans (B2.mono bw.size)) (hp.same _ _ _ _ _ hp1 B2.size (fun b _ hl => B2.block b hl)) (hp.same _ _ _ _ _ hp2 B2.size (fun b _ hl => B2.block b hl))
   rw [← hW1] at N1
   rw [← hW2] at N2
   obtain ⟨r, hr⟩ : ∃ r, r = eq x y := ⟨_, rfl⟩
   rw [← hr] at hcl
   have HF := hide (Ya hx (Ya hy (Ya hall (Ya (bw.trans (B2.mono bw.size)) hr))))
   clear ha hb hf bw hall hx hy hc1' hc2' hp1 hp2 hl1 hl2 h1 h2 hW1 hW2 s1 B1 B2 m1 m2 m3 hn1 hn2 HA HV hb1 hb2 hr HB
   cases r
   ·
    go_wp2_with fail
    refine hcl.mono ?_
    clear hcl
    rintro en w4 ⟨rfl, b4⟩
    have B4 := hide b4
    clear b4 L1 N1 L2 N2 L3 L4
    go_wp2_with fail
    go_ret
    obtain ⟨hx, hy, hall, bw, hr⟩ := Qa HF
    exact ⟨by rw [Qal hx hy hr.symm]; rfl, bw.trans ((Qa B4).mono bw.size)⟩
   go_wp2_with fail
   refine hcl.mono ?_
   clear hcl
   rintro en w4 ⟨rfl, b4⟩
   have B4 := hide b4
   clear b4 L1 N1 L2 N2 L3 L4
   go_wp2_with fail
   go_roundw
   case rel =>
    obtain ⟨hx, hy, hall, bw, hr⟩ := Qa HF
    refine ⟨j + 1, by go_num, by omega, hide ⟨bw.trans ((Qa B4).mono bw.size), fun q x' y' hq hx' hy' => ?_⟩⟩
    by_cases e : q = j
    ·
     subst e
     rw [hx] at hx'
     rw [hy] at hy'
     cases hx'
     cases hy'
     exact hr.symm
    · exact hall q x' y' (by omega) hx' hy'
   case measure => simp [intOf]; omega
  obtain ⟨bw, hall⟩ := Qa HB
  have HF := hide (Ya bw hall)
  clear bw hall HB
  go_wp2_with fail
  go_ret
  obtain ⟨bw, hall⟩ := Qa HF
  obtain ⟨_, _, _, hn1, hn2⟩ := Qa HA
  exact ⟨by rw [Qbd (by omega) (fun q x' y' hx' hy' => hall q x' y' (by have := (List.getElem?_eq_some_iff.1 hx').1; omega) hx' hy')]; rfl, bw⟩
 have hne : ((n1 : Int) != (n2 : Int)) = true := by simp; omega
 go_enter Tryz.func58, Tryz.ntmps58
 go_wp2_with fail
 go_ret
 obtain ⟨_, _, _, hn1, hn2⟩ := Qa HA
 exact ⟨by rw [Qbw (by omega)]; rfl, Below.refl _ _⟩
end
section
open Go.RowKit Go.Maps
def qtLoad (a : Value) : Sem Value := Instr.loadAt 58 a
theorem Qpi (a : Value) : Instr.loadAt 58 a = qtLoad a := rfl
def qtStore (p v : Value) : Sem Unit := Instr.storeAt 58 p v
theorem Qnh (p v : Value) : Instr.storeAt 58 p v = qtStore p v := rfl
theorem Qrc : (Tryz.prog.info? 58).map (·.size) = some 4 := by kernel_rfl
theorem Qif {w : World} {b o : Nat} {c0 c1 c2 c3 : Value} (h : ∀ q c, ([c0, c1, c2, c3] : List Value)[q]? = some c → w.cell? ⟨b, o + q, none⟩ = some c) : (qtLoad (.pointer (some ⟨b, o, none⟩))).run Tryz.prog w = .ok (.agg #[c0, c1, c2, c3]) w :=
 run_loadAt_mid w b o 58 [c0, c1, c2, c3] _ (fun q v hq => h q v hq) Tryz.underlying58 rfl Qrc
theorem Qtt (w : World) {c0 c1 c2 c3 : Value} (h1 : ∀ c ∈ ([c0, c1, c2, c3] : List Value), c.oneCell' = true) : (qtStore (.pointer (some ⟨w.heap.size, 0, none⟩)) (.agg #[c0, c1, c2, c3])).run Tryz.prog (w.alloc (.cells #[.string ⟨#[]⟩, .string ⟨#[]⟩, .slice none 0 0, .int .i64 0] 58)) = .ok () (w.alloc (.cells #[c0, c1, c2, c3] 58)) :=
 run_storeAt_new w 58 _ _ Qrc rfl (by simpa using h1)
theorem Qtg {cs : List Value} (h : cs.length = 4) : ∃ c0 c1 c2 c3, cs = [c0, c1, c2, c3] := by
 match cs, h with
 | [c0, c1, c2, c3], _ => exact ⟨c0, c1, c2, c3, rfl⟩
attribute [local go_sem ↓] Qpi Qnh
theorem eqf_t {α : Type} {p : PS α} (hp : PSok p) (hone : ∀ S w cs x, p S w cs x → ∀ c ∈ cs, c.oneCell' = true) {S : Nat → Prop} {w : World} {va vb : Value} {xs ys : List α} (eq : α → α → Bool) (ha : LsAt p 4 S w va xs) (hb : LsAt p 4 S w vb ys)
  (hf : ∀ (j : Nat) (x y : α), xs[j]? = some x → ys[j]? = some y → ∀ w' c0 c1 c2 c3 d0 d1 d2 d3, Below w.heap.size w w' → p S w' [c0, c1, c2, c3] x → p S w' [d0, d1, d2, d3] y → Calls Tryz.prog 21 #[.agg #[c0, c1, c2, c3], .agg #[d0, d1, d2, d3]] w' fun en w2 => en = .returned (.bool (eq x y)) ∧ Below w'.heap.size w' w2) :
  Calls Tryz.prog 20 #[va, vb, .func (.func 21) #[] #[]] w fun en w' => en = .returned (.bool (eqL eq xs ys)) ∧ Below w.heap.size w w' := by
 obtain ⟨a1, p1, e1⟩ := ha.sl
 obtain ⟨a2, p2, e2⟩ := hb.sl
 have hm1 : xs.length ≤ p1 ∧ p1 ≤ maxLen := by
  obtain ⟨_, _, _, e, h1, h2, _⟩ := ha
  rw [e] at e1
  cases e1
  exact ⟨h1, h2⟩
 have hm2 : ys.length ≤ p2 ∧ p2 ≤ maxLen := by
  obtain ⟨_, _, _, e, h1, h2, _⟩ := hb
  rw [e] at e2
  cases e2
  exact ⟨h1, h2⟩
 unfold maxLen at hm1 hm2
 obtain ⟨n1, hn1⟩ : ∃ n, xs.length = n := ⟨_, rfl⟩
 obtain ⟨n2, hn2⟩ : ∃ n, ys.length = n := ⟨_, rfl⟩
 rw [hn1] at e1 hm1
 rw [hn2] at e2 hm2
 obtain ⟨hc1, hc2⟩ := hm1
 obtain ⟨hc3, hc4⟩ := hm2
 have HA := hide (Ya ha (Ya hb (Ya hf (Ya hn1 hn2))))
 have HV := hide (Ya e1 e2)
 rw [e1, e2]
 clear ha hb hf e1 e2 hn1 hn2
 by_cases hlen : n1 = n2
 ·
  subst hlen
  go_enter Tryz.func20, Tryz.ntmps20
  go_wp2_with fail
  go_loopw [17] (fun i wr => ∃ j : Nat, i = .int .i64 (j : Int) ∧ j ≤ n1 ∧ Hid (Below w.heap.size w wr ∧ ∀ q x y, q < j → xs[q]? = some x → ys[q]? = some y → eq x y = true)) (fun i _ => n1 - (intOf i).toNat)
  case atStart => exact ⟨0, rfl, Nat.zero_le _, hide ⟨Below.refl _ _, fun q _ _ hq => absurd hq (Nat.not_lt_zero _)⟩⟩
  obtain ⟨j, rfl, hj, HB⟩ := hrel
  by_cases hlt : j < n1
  ·
   obtain ⟨ha, hb, hf, hn1, hn2⟩ := Qa HA
   obtain ⟨bw, hall⟩ := Qa HB
   obtain ⟨x, hx⟩ : ∃ x, xs[j]? = some x := ⟨xs[j]'(by omega), List.getElem?_eq_getElem _⟩
   obtain ⟨y, hy⟩ : ∃ y, ys[j]? = some y := ⟨ys[j]'(by omega), List.getElem?_eq_getElem _⟩
   obtain ⟨b1, q1, cs1, ev1, hb1, _, hl1, hp1, hc1'⟩ := (ha.later hp bw).elem hx
   obtain ⟨b2, q2, cs2, ev2, hb2, _, hl2, hp2, hc2'⟩ := (hb.later hp bw).elem hy
   obtain ⟨c0, c1, c2, c3, rfl⟩ := Qtg hl1
   obtain ⟨d0, d1, d2, d3, rfl⟩ := Qtg hl2
   rw [(Qa HV).1, hn1] at ev1
   rw [(Qa HV).2, hn2] at ev2
   simp only [Value.slice.injEq] at ev1 ev2
   obtain ⟨rfl, -, -⟩ := ev1
   obtain ⟨rfl, -, -⟩ := ev2
   have h1 := hone _ _ _ _ hp1
   have h2 := hone _ _ _ _ hp2
   obtain ⟨W1, hW1⟩ : ∃ W1, W1 = wr.alloc (.cells #[c0, c1, c2, c3] 58) := ⟨_, rfl⟩
   obtain ⟨W2, hW2⟩ : ∃ W2, W2 = W1.alloc (.cells #[d0, d1, d2, d3] 58) := ⟨_, rfl⟩
   have s1 : W1.heap.size = wr.heap.size + 1 := by rw [hW1]; simp
   have B1 : Below wr.heap.size wr W1 := by rw [hW1]; exact (Below.refl _ wr).alloc (Nat.le_refl _) _
   have B2 : Below wr.heap.size wr W2 := by rw [hW2]; exact B1.alloc B1.size _
   have m1 : W1.heap[wr.heap.size]? = some (.cells #[c0, c1, c2, c3] 58 (0, 0)) := by rw [hW1]; exact heap_alloc_new wr _
   have m2 : W2.heap[W1.heap.size]? = some (.cells #[d0, d1, d2, d3] 58 (0, 0)) := by rw [hW2]; exact heap_alloc_new W1 _
   have m3 : W2.heap[wr.heap.size]? = some (.cells #[c0, c1, c2, c3] 58 (0, 0)) := by rw [hW2, Below.heap_alloc _ _ _ (by omega)]; exact m1
   have L1 := Qif (w := wr) (b := b1) (o := j * 4) hc1'
   have N1 := Qtt wr h1
   have L2 := Qif (w := W1) (b := b2) (o := j * 4) (fun q c hq => by rw [B1.cell (p := ⟨b2, _, none⟩) hb2]; exact hc2' q c hq)
   have N2 := Qtt W1 h2
   have L3 := Qif (w := W2) (b := wr.heap.size) (o := 0) (fun q c hq => by rw [Qad m3, Nat.zero_add]; simpa using hq)
   have L4 := Qif (w := W2) (b := W1.heap.size) (o := 0) (fun q c hq => by rw [Qad m2, Nat.zero_add]; simpa using hq)
   have hcl := hf j x y hx hy W2 c0 c1 c2 c3 d0 d1 d2 d3 (bw.trans (B2.mono bw.size)) (hp.same _ _ _ _ _ hp1 B2.size (fun b _ hl => B2.block b hl)) (hp.same _ _ _ _ _ hp2 B2.size (fun b _ hl => B2.block b hl))
   rw [← hW1] at N1
   rw [← hW2] at N2
   obtain ⟨r, hr⟩ : ∃ r, r = eq x y := ⟨_, rfl⟩
   rw [← hr] at hcl
   have HF := hide (Ya hx (Ya hy (Ya hall (Ya (bw.trans (B2.mono bw.size)) hr))))
   clear ha hb hf bw hall hx hy hc1' hc2' hp1 hp2 hl1 hl2 h1 h2 hW1 hW2 s1 B1 B2 m1 m2 m3 hn1 hn2 HA HV hb1 hb2 hr HB
   cases r
   ·
    go_wp2_with fail
    refine hcl.mono ?_
    clear hcl
    rintro en w4 ⟨rfl, b4⟩
    have B4 := hide b4
    clear b4 L1 N1 L2 N2 L3 L4
    go_wp2_with fail
    go_ret
    obtain ⟨hx, hy, hall, bw, hr⟩ := Qa HF
    exact ⟨by rw [Qal hx hy hr.symm]; rfl, bw.trans ((Qa B4).mono bw.size)⟩
   go_wp2_with fail
   refine hcl.mono ?_
   clear hcl
   rintro en w4 ⟨rfl, b4⟩
   have B4 := hide b4
   clear b4 L1 N1 L2 N2 L3 L4
   go_wp2_with fail
   go_roundw
   case rel =>
    obtain ⟨hx, hy, hall, bw, hr⟩ := Qa HF
    refine ⟨j + 1, by go_num, by omega, hide ⟨bw.trans ((Qa B4).mono bw.size), fun q x' y' hq hx' hy' => ?_⟩⟩
    by_cases e : q = j
    ·
     subst e
     rw [hx] at hx'
     rw [hy] at hy'
     cases hx'
     cases hy'
     exact hr.symm
    · exact hall q x' y' (by omega) hx' hy'
   case measure => simp [intOf]; omega
  obtain ⟨bw, hall⟩ := Qa HB
  have HF := hide (Ya bw hall)
  clear bw hall HB
  go_wp2_with fail
  go_ret
  obtain ⟨bw, hall⟩ := Qa HF
  obtain ⟨_, _, _, hn1, hn2⟩ := Qa HA
  exact ⟨by rw [Qbd (by omega) (fun q x' y' hx' hy' => hall q x' y' (by have := (List.getElem?_eq_some_iff.1 hx').1; omega) hx' hy')]; rfl, bw⟩
 have hne : ((n1 : Int) != (n2 : Int)) = true := by simp; omega
 go_enter Tryz.func20, Tryz.ntmps20
 go_wp2_with fail
 go_ret
 obtain ⟨_, _, _, hn1, hn2⟩ := Qa HA
 exact ⟨by rw [Qbw (by omega)]; rfl, Below.refl _ _⟩
end
section
open Go.RowKit Go.Maps
def qdLoad (a : Value) : Sem Value := Instr.loadAt 63 a
theorem Qpe (a : Value) : Instr.loadAt 63 a = qdLoad a := rfl
def qdStore (p v : Value) : Sem Unit := Instr.storeAt 63 p v
theorem Qnd (p v : Value) : Instr.storeAt 63 p v = qdStore p v := rfl
theorem Qqy : (Tryz.prog.info? 63).map (·.size) = some 5 := by kernel_rfl
theorem Qic {w : World} {b o : Nat} {c0 c1 c2 c3 c4 : Value} (h : ∀ q c, ([c0, c1, c2, c3, c4] : List Value)[q]? = some c → w.cell? ⟨b, o + q, none⟩ = some c) : (qdLoad (.pointer (some ⟨b, o, none⟩))).run Tryz.prog w = .ok (.agg #[c0, c1, c2, c3, c4]) w :=
 run_loadAt_mid w b o 63 [c0, c1, c2, c3, c4] _ (fun q v hq => h q v hq) Tryz.underlying63 rfl Qqy
theorem Qtn (w : World) {c0 c1 c2 c3 c4 : Value} (h1 : ∀ c ∈ ([c0, c1, c2, c3, c4] : List Value), c.oneCell' = true) : (qdStore (.pointer (some ⟨w.heap.size, 0, none⟩)) (.agg #[c0, c1, c2, c3, c4])).run Tryz.prog (w.alloc (.cells #[.string ⟨#[]⟩, .slice none 0 0, .bool false, .bool false, .int .i64 0] 63)) = .ok () (w.alloc (.cells #[c0, c1, c2, c3, c4] 63)) :=
 run_storeAt_new w 63 _ _ Qqy rfl (by simpa using h1)
theorem Qlu {cs : List Value} (h : cs.length = 5) : ∃ c0 c1 c2 c3 c4, cs = [c0, c1, c2, c3, c4] := by
 match cs, h with
 | [c0, c1, c2, c3, c4], _ => exact ⟨c0, c1, c2, c3, c4, rfl⟩
attribute [local go_sem ↓] Qpe Qnd
theorem eqf_d {α : Type} {p : PS α} (hp : PSok p) (hone : ∀ S w cs x, p S w cs x → ∀ c ∈ cs, c.oneCell' = true) {S : Nat → Prop} {w : World} {va vb : Value} {xs ys : List α} (eq : α → α → Bool) (ha : LsAt p 5 S w va xs) (hb : LsAt p 5 S w vb ys)
  (hf : ∀ (j : Nat) (x y : α), xs[j]? = some x → ys[j]? = some y → ∀ w' c0 c1 c2 c3 c4 d0 d1 d2 d3 d4, Below w.heap.size w w' → p S w' [c0, c1, c2, c3, c4] x → p S w' [d0, d1, d2, d3, d4] y → Calls Tryz.prog 23 #[.agg #[c0, c1, c2, c3, c4], .agg #[d0, d1, d2, d3, d4]] w' fun en w2 => en = .returned (.bool (eq x y)) ∧ Below w'.heap.size w' w2) :
  Calls Tryz.prog 22 #[va, vb, .func (.func 23) #[] #[]] w fun en w' => en = .returned (.bool (eqL eq xs ys)) ∧ Below w.heap.size w w' := by
 obtain ⟨a1, p1, e1⟩ := ha.sl
 obtain ⟨a2, p2, e2⟩ := hb.sl
 have hm1 : xs.length ≤ p1 ∧ p1 ≤ maxLen := by
  obtain ⟨_, _, _, e, h1, h2, _⟩ := ha
  rw [e] at e1
  cases e1
  exact ⟨h1, h2⟩
 have hm2 : ys.length ≤ p2 ∧ p2 ≤ maxLen := by
  obtain ⟨_, _, _, e, h1, h2, _⟩ := hb
  rw [e] at e2
  cases e2
  exact ⟨h1, h2⟩
 unfold maxLen at hm1 hm2
 obtain ⟨n1, hn1⟩ : ∃ n, xs.length = n := ⟨_, rfl⟩
 obtain ⟨n2, hn2⟩ : ∃ n, ys.length = n := ⟨_, rfl⟩
 rw [hn1] at e1 hm1
 rw [hn2] at e2 hm2
 obtain ⟨hc1, hc2⟩ := hm1
 obtain ⟨hc3, hc4⟩ := hm2
 have HA := hide (Ya ha (Ya hb (Ya hf (Ya hn1 hn2))))
 have HV := hide (Ya e1 e2)
 rw [e1, e2]
 clear ha hb hf e1 e2 hn1 hn2
 by_cases hlen : n1 = n2
 ·
  subst hlen
  go_enter Tryz.func22, Tryz.ntmps22
  go_wp2_with fail
  go_loopw [17] (fun i wr => ∃ j : Nat, i = .int .i64 (j : Int) ∧ j ≤ n1 ∧ Hid (Below w.heap.size w wr ∧ ∀ q x y, q < j → xs[q]? = some x → ys[q]? = some y → eq x y = true)) (fun i _ => n1 - (intOf i).toNat)
  case atStart => exact ⟨0, rfl, Nat.zero_le _, hide ⟨Below.refl _ _, fun q _ _ hq => absurd hq (Nat.not_lt_zero _)⟩⟩
  obtain ⟨j, rfl, hj, HB⟩ := hrel
  by_cases hlt : j < n1
  ·
   obtain ⟨ha, hb, hf, hn1, hn2⟩ := Qa HA
   obtain ⟨bw, hall⟩ := Qa HB
   obtain ⟨x, hx⟩ : ∃ x, xs[j]? = some x := ⟨xs[j]'(by omega), List.getElem?_eq_getElem _⟩
   obtain ⟨y, hy⟩ : ∃ y, ys[j]? = some y := ⟨ys[j]'(by omega), List.getElem?_eq_getElem _⟩
   obtain ⟨b1, q1, cs1, ev1, hb1, _, hl1, hp1, hc1'⟩ := (ha.later hp bw).elem hx
   obtain ⟨b2, q2, cs2, ev2, hb2, _, hl2, hp2, hc2'⟩ := (hb.later hp bw).elem hy
   obtain ⟨c0, c1, c2, c3, c4, rfl⟩ := Qlu hl1
   obtain ⟨d0, d1, d2, d3, d4, rfl⟩ := Qlu hl2
   rw [(Qa HV).1, hn1] at ev1
   rw [(Qa HV).2, hn2] at ev2
   simp only [Value.slice.injEq] at ev1 ev2
   obtain ⟨rfl, -, -⟩ := ev1
   obtain ⟨rfl, -, -⟩ := ev2
   have h1 := hone _ _ _ _ hp1
   have h2 := hone _ _ _ _ hp2
   obtain ⟨W1, hW1⟩ : ∃ W1, W1 = wr.alloc (.cells #[c0, c1, c2, c3, c4] 63) := ⟨_, rfl⟩
   obtain ⟨W2, hW2⟩ : ∃ W2, W2 = W1.alloc (.cells #[d0, d1, d2, d3, d4] 63) := ⟨_, rfl⟩
   have s1 : W1.heap.size = wr.heap.size + 1 := by rw [hW1]; simp
   have B1 : Below wr.heap.size wr W1 := by rw [hW1]; exact (Below.refl _ wr).alloc (Nat.le_refl _) _
   have B2 : Below wr.heap.size wr W2 := by rw [hW2]; exact B1.alloc B1.size _
   have m1 : W1.heap[wr.heap.size]? = some (.cells #[c0, c1, c2, c3, c4] 63 (0, 0)) := by rw [hW1]; exact heap_alloc_new wr _
   have m2 : W2.heap[W1.heap.size]? = some (.cells #[d0, d1, d2, d3, d4] 63 (0, 0)) := by rw [hW2]; exact heap_alloc_new W1 _
   have m3 : W2.heap[wr.heap.size]? = some (.cells #[c0, c1, c2, c3, c4] 63 (0, 0)) := by rw [hW2, Below.heap_alloc _ _ _ (by omega)]; exact m1
   have L1 := Qic (w := wr) (b := b1) (o := j * 5) hc1'
   have N1 := Qtn wr h1
   have L2 := Qic (w := W1) (b := b2) (o := j * 5) (fun q c hq => by rw [B1.cell (p := ⟨b2, _, none⟩) hb2]; exact hc2' q c hq)
   have N2 := Qtn W1 h2
   have L3 := Qic (w := W2) (b := wr.heap.size) (o := 0) (fun q c hq => by rw [Qad m3, Nat.zero_add]; simpa using hq)
   have L4 := Qic (w := W2) (b := W1.heap.size) (o := 0) (fun q c hq => by rw [Qad m2, Nat.zero_add]; simpa using hq)
   have hcl := hf j x y hx hy W2 c0 c1 c2 c3 c4 d0 d1 d2 d3 d4 (bw.trans (B2.mono bw.size)) (hp.same _ _ _ _ _ hp1 B2.size (fun b _ hl => B2.block b hl)) (hp.same _ _ _ _ _ hp2 B2.size (fun b _ hl => B2.block b hl))
   rw [← hW1] at N1
   rw [← hW2] at N2
   obtain ⟨r, hr⟩ : ∃ r, r = eq x y := ⟨_, rfl⟩
   rw [← hr] at hcl
   have HF := hide (Ya hx (Ya hy (Ya hall (Ya (bw.trans (B2.mono bw.size)) hr))))
   clear ha hb hf bw hall hx hy hc1' hc2' hp1 hp2 hl1 hl2 h1 h2 hW1 hW2 s1 B1 B2 m1 m2 m3 hn1 hn2 HA HV hb1 hb2 hr HB
   cases r
   ·
    go_wp2_with fail
    refine hcl.mono ?_
    clear hcl
    rintro en w4 ⟨rfl, b4⟩
    have B4 := hide b4
    clear b4 L1 N1 L2 N2 L3 L4
    go_wp2_with fail
    go_ret
    obtain ⟨hx, hy, hall, bw, hr⟩ := Qa HF
    exact ⟨by rw [Qal hx hy hr.symm]; rfl, bw.trans ((Qa B4).mono bw.size)⟩
   go_wp2_with fail
   refine hcl.mono ?_
   clear hcl
   rintro en w4 ⟨rfl, b4⟩
   have B4 := hide b4
   clear b4 L1 N1 L2 N2 L3 L4
   go_wp2_with fail
   go_roundw
   case rel =>
    obtain ⟨hx, hy, hall, bw, hr⟩ := Qa HF
    refine ⟨j + 1, by go_num, by omega, hide ⟨bw.trans ((Qa B4).mono bw.size), fun q x' y' hq hx' hy' => ?_⟩⟩
    by_cases e : q = j
    ·
     subst e
     rw [hx] at hx'
     rw [hy] at hy'
     cases hx'
     cases hy'
     exact hr.symm
    · exact hall q x' y' (by omega) hx' hy'
   case measure => simp [intOf]; omega
  obtain ⟨bw, hall⟩ := Qa HB
  have HF := hide (Ya bw hall)
  clear bw hall HB
  go_wp2_with fail
  go_ret
  obtain ⟨bw, hall⟩ := Qa HF
  obtain ⟨_, _, _, hn1, hn2⟩ := Qa HA
  exact ⟨by rw [Qbd (by omega) (fun q x' y' hx' hy' => hall q x' y' (by have := (List.getElem?_eq_some_iff.1 hx').1; omega) hx' hy')]; rfl, bw⟩
 have hne : ((n1 : Int) != (n2 : Int)) = true := by simp; omega
 go_enter Tryz.func22, Tryz.ntmps22
 go_wp2_with fail
 go_ret
 obtain ⟨_, _, _, hn1, hn2⟩ := Qa HA
 exact ⟨by rw [Qbw (by omega)]; rfl, Below.refl _ _⟩
end
end Go.Proofs.YtjebglmpopijhaaGreatDoor
