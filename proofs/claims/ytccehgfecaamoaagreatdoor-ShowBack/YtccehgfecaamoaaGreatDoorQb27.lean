/- slices.EqualFunc at Lit. slices.EqualFunc at Ctor. slices.EqualFunc at TypeDecl. slices.EqualFunc at Decl. slices.EqualFunc at Comp. -/
import Derived.Test.YtccehgfecaamoaaGreatDoorQb21
set_option maxRecDepth 100000
set_option maxHeartbeats 32000000
namespace Go.Proofs.YtccehgfecaamoaaGreatDoor
section
open Go.RowKit Go.Maps
def qlLoad (a : Value) : Sem Value := Instr.loadAt 69 a
theorem Qmz (a : Value) : Instr.loadAt 69 a = qlLoad a := rfl
def qlStore (p v : Value) : Sem Unit := Instr.storeAt 69 p v
theorem Qka (p v : Value) : Instr.storeAt 69 p v = qlStore p v := rfl
theorem Qpm : (Tryz.prog.info? 69).map (·.size) = some 16 := by kernel_rfl
theorem Qgv {w : World} {b o : Nat} {c0 c1 c2 c3 c4 c5 c6 c7 c8 c9 c10 c11 c12 c13 c14 c15 : Value} (h : ∀ q c, ([c0, c1, c2, c3, c4, c5, c6, c7, c8, c9, c10, c11, c12, c13, c14, c15] : List Value)[q]? = some c → w.cell? ⟨b, o + q, none⟩ = some c) : (qlLoad (.pointer (some ⟨b, o, none⟩))).run Tryz.prog w = .ok (.agg #[c0, c1, c2, c3, c4, c5, c6, c7, c8, c9, c10, c11, c12, c13, c14, c15]) w :=
 run_loadAt_mid w b o 69 [c0, c1, c2, c3, c4, c5, c6, c7, c8, c9, c10, c11, c12, c13, c14, c15] _ (fun q v hq => h q v hq) Tryz.underlying69 rfl Qpm
theorem Jdc (w : World) {c0 c1 c2 c3 c4 c5 c6 c7 c8 c9 c10 c11 c12 c13 c14 c15 : Value} (h1 : ∀ c ∈ ([c0, c1, c2, c3, c4, c5, c6, c7, c8, c9, c10, c11, c12, c13, c14, c15] : List Value), c.oneCell' = true) : (qlStore (.pointer (some ⟨w.heap.size, 0, none⟩)) (.agg #[c0, c1, c2, c3, c4, c5, c6, c7, c8, c9, c10, c11, c12, c13, c14, c15])).run Tryz.prog (w.alloc (.cells #[.int .i64 0, .string ⟨#[]⟩, .slice none 0 0, .int .i64 0, .string ⟨#[]⟩, .int .i64 0, .int .i64 0, .string ⟨#[]⟩, .slice none 0 0, .int .i64 0, .int .i64 0, .int .i64 0, .string ⟨#[]⟩, .slice none 0 0, .int .i64 0, .int .i64 0] 69)) = .ok () (w.alloc (.cells #[c0, c1, c2, c3, c4, c5, c6, c7, c8, c9, c10, c11, c12, c13, c14, c15] 69)) :=
 run_storeAt_new w 69 _ _ Qpm rfl (by simpa using h1)
theorem Jcr {cs : List Value} (h : cs.length = 16) : ∃ c0 c1 c2 c3 c4 c5 c6 c7 c8 c9 c10 c11 c12 c13 c14 c15, cs = [c0, c1, c2, c3, c4, c5, c6, c7, c8, c9, c10, c11, c12, c13, c14, c15] := by
 match cs, h with
 | [c0, c1, c2, c3, c4, c5, c6, c7, c8, c9, c10, c11, c12, c13, c14, c15], _ => exact ⟨c0, c1, c2, c3, c4, c5, c6, c7, c8, c9, c10, c11, c12, c13, c14, c15, rfl⟩
attribute [local go_sem ↓] Qmz Qka
theorem eqf_l {α : Type} {p : PS α} (hp : PSok p) (hone : ∀ S w cs x, p S w cs x → ∀ c ∈ cs, c.oneCell' = true) {S : Nat → Prop} {w : World} {va vb : Value} {xs ys : List α} (eq : α → α → Bool) (ha : LsAt p 16 S w va xs) (hb : LsAt p 16 S w vb ys)
  (hf : ∀ (j : Nat) (x y : α), xs[j]? = some x → ys[j]? = some y → ∀ w' c0 c1 c2 c3 c4 c5 c6 c7 c8 c9 c10 c11 c12 c13 c14 c15 d0 d1 d2 d3 d4 d5 d6 d7 d8 d9 d10 d11 d12 d13 d14 d15, Below w.heap.size w w' → p S w' [c0, c1, c2, c3, c4, c5, c6, c7, c8, c9, c10, c11, c12, c13, c14, c15] x → p S w' [d0, d1, d2, d3, d4, d5, d6, d7, d8, d9, d10, d11, d12, d13, d14, d15] y → Calls Tryz.prog 78 #[.agg #[c0, c1, c2, c3, c4, c5, c6, c7, c8, c9, c10, c11, c12, c13, c14, c15], .agg #[d0, d1, d2, d3, d4, d5, d6, d7, d8, d9, d10, d11, d12, d13, d14, d15]] w' fun en w2 => en = .returned (.bool (eq x y)) ∧ Below w'.heap.size w' w2) :
  Calls Tryz.prog 77 #[va, vb, .func (.func 78) #[] #[]] w fun en w' => en = .returned (.bool (eqL eq xs ys)) ∧ Below w.heap.size w w' := by
 obtain ⟨a1, p1, e1⟩ := ha.sl
 obtain ⟨a2, p2, e2⟩ := hb.sl
 have hm1 : xs.length ≤ p1 ∧ p1 ≤ maxLen := by
  obtain ⟨_, _, _, e, h1, h2, _⟩ := ha
  rw [e] at e1
  cases e1
  exact ⟨h1, h2⟩
 have hm2 : ys.length ≤ p2 ∧ p2 ≤ maxLen := by
  obtain ⟨_, _, _, e, h1, h2, _⟩ := hb
  rw [e] at e2
  cases e2
  exact ⟨h1, h2⟩
 unfold maxLen at hm1 hm2
 obtain ⟨n1, hn1⟩ : ∃ n, xs.length = n := ⟨_, rfl⟩
 obtain ⟨n2, hn2⟩ : ∃ n, ys.length = n := ⟨_, rfl⟩
 rw [hn1] at e1 hm1
 rw [hn2] at e2 hm2
 obtain ⟨hc1, hc2⟩ := hm1
 obtain ⟨hc3, hc4⟩ := hm2
 have HA := hide (Ya ha (Ya hb (Ya hf (Ya hn1 hn2))))
 have HV := hide (Ya e1 e2)
 rw [e1, e2]
 clear ha hb hf e1 e2 hn1 hn2
 by_cases hlen : n1 = n2
 ·
  subst hlen
  go_enter Tryz.func77, Tryz.ntmps77
  go_wp2_with fail
  go_loopw [17] (fun i wr => ∃ j : Nat, i = .int .i64 (j : Int) ∧ j ≤ n1 ∧ Hid (Below w.heap.size w wr ∧ ∀ q x y, q < j → xs[q]? = some x → ys[q]? = some y → eq x y = true)) (fun i _ => n1 - (intOf i).toNat)
  case atStart => exact ⟨0, rfl, Nat.zero_le _, hide ⟨Below.refl _ _, fun q _ _ hq => absurd hq (Nat.not_lt_zero _)⟩⟩
  obtain ⟨j, rfl, hj, HB⟩ := hrel
  by_cases hlt : j < n1
  ·
   obtain ⟨ha, hb, hf, hn1, hn2⟩ := Qa HA
   obtain ⟨bw, hall⟩ := Qa HB
   obtain ⟨x, hx⟩ : ∃ x, xs[j]? = some x := ⟨xs[j]'(by omega), List.getElem?_eq_getElem _⟩
   obtain ⟨y, hy⟩ : ∃ y, ys[j]? = some y := ⟨ys[j]'(by omega), List.getElem?_eq_getElem _⟩
   obtain ⟨b1, q1, cs1, ev1, hb1, _, hl1, hp1, hc1'⟩ := (ha.later hp bw).elem hx
   obtain ⟨b2, q2, cs2, ev2, hb2, _, hl2, hp2, hc2'⟩ := (hb.later hp bw).elem hy
   obtain ⟨c0, c1, c2, c3, c4, c5, c6, c7, c8, c9, c10, c11, c12, c13, c14, c15, rfl⟩ := Jcr hl1
   obtain ⟨d0, d1, d2, d3, d4, d5, d6, d7, d8, d9, d10, d11, d12, d13, d14, d15, rfl⟩ := Jcr hl2
   rw [(Qa HV).1, hn1] at ev1
   rw [(Qa HV).2, hn2] at ev2
   simp only [Value.slice.injEq] at ev1 ev2
   obtain ⟨rfl, -, -⟩ := ev1
   obtain ⟨rfl, -, -⟩ := ev2
   have h1 := hone _ _ _ _ hp1
   have h2 := hone _ _ _ _ hp2
   obtain ⟨W1, hW1⟩ : ∃ W1, W1 = wr.alloc (.cells #[c0, c1, c2, c3, c4, c5, c6, c7, c8, c9, c10, c11, c12, c13, c14, c15] 69) := ⟨_, rfl⟩
   obtain ⟨W2, hW2⟩ : ∃ W2, W2 = W1.alloc (.cells #[d0, d1, d2, d3, d4, d5, d6, d7, d8, d9, d10, d11, d12, d13, d14, d15] 69) := ⟨_, rfl⟩
   have s1 : W1.heap.size = wr.heap.size + 1 := by rw [hW1]; simp
   have B1 : Below wr.heap.size wr W1 := bnw hW1
   have B2 : Below wr.heap.size wr W2 := by rw [hW2]; exact B1.alloc B1.size _
   have m1 : W1.heap[wr.heap.size]? = some (.cells #[c0, c1, c2, c3, c4, c5, c6, c7, c8, c9, c10, c11, c12, c13, c14, c15] 69 (0, 0)) := nnw hW1
   have m2 : W2.heap[W1.heap.size]? = some (.cells #[d0, d1, d2, d3, d4, d5, d6, d7, d8, d9, d10, d11, d12, d13, d14, d15] 69 (0, 0)) := nnw hW2
   have m3 : W2.heap[wr.heap.size]? = some (.cells #[c0, c1, c2, c3, c4, c5, c6, c7, c8, c9, c10, c11, c12, c13, c14, c15] 69 (0, 0)) := by rw [hW2, Below.heap_alloc _ _ _ (by omega)]; exact m1
   have L1 := Qgv (w := wr) (b := b1) (o := j * 16) hc1'
   have N1 := Jdc wr h1
   have L2 := Qgv (w := W1) (b := b2) (o := j * 16) (fun q c hq => by rw [B1.cell (p := ⟨b2, _, none⟩) hb2]; exact hc2' q c hq)
   have N2 := Jdc W1 h2
   have L3 := Qgv (w := W2) (b := wr.heap.size) (o := 0) (fun q c hq => by rw [Qab m3, Nat.zero_add]; simpa using hq)
   have L4 := Qgv (w := W2) (b := W1.heap.size) (o := 0) (fun q c hq => by rw [Qab m2, Nat.zero_add]; simpa using hq)
   have hcl := hf j x y hx hy W2 c0 c1 c2 c3 c4 c5 c6 c7 c8 c9 c10 c11 c12 c13 c14 c15 d0 d1 d2 d3 d4 d5 d6 d7 d8 d9 d10 d11 d12 d13 d14 d15 (bw.trans (B2.mono bw.size)) (hp.same _ _ _ _ _ hp1 B2.size (fun b _ hl => B2.block b hl)) (hp.same _ _ _ _ _ hp2 B2.size (fun b _ hl => B2.block b hl))
   rw [← hW1] at N1
   rw [← hW2] at N2
   obtain ⟨r, hr⟩ : ∃ r, r = eq x y := ⟨_, rfl⟩
   rw [← hr] at hcl
   have HF := hide (Ya hx (Ya hy (Ya hall (Ya (bw.trans (B2.mono bw.size)) hr))))
   clear ha hb hf bw hall hx hy hc1' hc2' hp1 hp2 hl1 hl2 h1 h2 hW1 hW2 s1 B1 B2 m1 m2 m3 hn1 hn2 HA HV hb1 hb2 hr HB
   cases r
   ·
    go_wp2_with fail
    refine hcl.mono ?_
    clear hcl
    rintro en w4 ⟨rfl, b4⟩
    have B4 := hide b4
    clear b4 L1 N1 L2 N2 L3 L4
    go_wp2_with fail
    go_ret
    obtain ⟨hx, hy, hall, bw, hr⟩ := Qa HF
    exact ⟨by rw [Qai hx hy hr.symm]; rfl, bw.trans ((Qa B4).mono bw.size)⟩
   go_wp2_with fail
   refine hcl.mono ?_
   clear hcl
   rintro en w4 ⟨rfl, b4⟩
   have B4 := hide b4
   clear b4 L1 N1 L2 N2 L3 L4
   go_wp2_with fail
   go_roundw
   case rel =>
    obtain ⟨hx, hy, hall, bw, hr⟩ := Qa HF
    refine ⟨j + 1, by go_num, by omega, hide ⟨bw.trans ((Qa B4).mono bw.size), fun q x' y' hq hx' hy' => ?_⟩⟩
    by_cases e : q = j
    ·
     subst e
     rw [hx] at hx'
     rw [hy] at hy'
     cases hx'
     cases hy'
     exact hr.symm
    · exact hall q x' y' (by omega) hx' hy'
   case measure => simp [intOf]; omega
  obtain ⟨bw, hall⟩ := Qa HB
  have HF := hide (Ya bw hall)
  clear bw hall HB
  go_wp2_with fail
  go_ret
  obtain ⟨bw, hall⟩ := Qa HF
  obtain ⟨_, _, _, hn1, hn2⟩ := Qa HA
  exact ⟨by rw [Qbd (by omega) (fun q x' y' hx' hy' => hall q x' y' (by have := (List.getElem?_eq_some_iff.1 hx').1; omega) hx' hy')]; rfl, bw⟩
 have hne : ((n1 : Int) != (n2 : Int)) = true := by simp; omega
 go_enter Tryz.func77, Tryz.ntmps77
 go_wp2_with fail
 go_ret
 obtain ⟨_, _, _, hn1, hn2⟩ := Qa HA
 exact ⟨by rw [Qbo (by omega)]; rfl, Below.refl _ _⟩
end
section
open Go.RowKit Go.Maps
def qcLoad (a : Value) : Sem Value := Instr.loadAt 119 a
theorem Qwy (a : Value) : Instr.loadAt 119 a = qcLoad a := rfl
def qcStore (p v : Value) : Sem Unit := Instr.storeAt 119 p v
theorem Qtu (p v : Value) : Instr.storeAt 119 p v = qcStore p v := rfl
theorem Qys : (Tryz.prog.info? 119).map (·.size) = some 2 := by kernel_rfl
theorem Qlt {w : World} {b o : Nat} {c0 c1 : Value} (h : ∀ q c, ([c0, c1] : List Value)[q]? = some c → w.cell? ⟨b, o + q, none⟩ = some c) : (qcLoad (.pointer (some ⟨b, o, none⟩))).run Tryz.prog w = .ok (.agg #[c0, c1]) w :=
 run_loadAt_mid w b o 119 [c0, c1] _ (fun q v hq => h q v hq) Tryz.underlying119 rfl Qys
theorem Jcz (w : World) {c0 c1 : Value} (h1 : ∀ c ∈ ([c0, c1] : List Value), c.oneCell' = true) : (qcStore (.pointer (some ⟨w.heap.size, 0, none⟩)) (.agg #[c0, c1])).run Tryz.prog (w.alloc (.cells #[.string ⟨#[]⟩, .slice none 0 0] 119)) = .ok () (w.alloc (.cells #[c0, c1] 119)) :=
 run_storeAt_new w 119 _ _ Qys rfl (by simpa using h1)
theorem Jcp {cs : List Value} (h : cs.length = 2) : ∃ c0 c1, cs = [c0, c1] := by
 match cs, h with
 | [c0, c1], _ => exact ⟨c0, c1, rfl⟩
attribute [local go_sem ↓] Qwy Qtu
theorem eqf_c {α : Type} {p : PS α} (hp : PSok p) (hone : ∀ S w cs x, p S w cs x → ∀ c ∈ cs, c.oneCell' = true) {S : Nat → Prop} {w : World} {va vb : Value} {xs ys : List α} (eq : α → α → Bool) (ha : LsAt p 2 S w va xs) (hb : LsAt p 2 S w vb ys)
  (hf : ∀ (j : Nat) (x y : α), xs[j]? = some x → ys[j]? = some y → ∀ w' c0 c1 d0 d1, Below w.heap.size w w' → p S w' [c0, c1] x → p S w' [d0, d1] y → Calls Tryz.prog 73 #[.agg #[c0, c1], .agg #[d0, d1]] w' fun en w2 => en = .returned (.bool (eq x y)) ∧ Below w'.heap.size w' w2) :
  Calls Tryz.prog 72 #[va, vb, .func (.func 73) #[] #[]] w fun en w' => en = .returned (.bool (eqL eq xs ys)) ∧ Below w.heap.size w w' := by
 obtain ⟨a1, p1, e1⟩ := ha.sl
 obtain ⟨a2, p2, e2⟩ := hb.sl
 have hm1 : xs.length ≤ p1 ∧ p1 ≤ maxLen := by
  obtain ⟨_, _, _, e, h1, h2, _⟩ := ha
  rw [e] at e1
  cases e1
  exact ⟨h1, h2⟩
 have hm2 : ys.length ≤ p2 ∧ p2 ≤ maxLen := by
  obtain ⟨_, _, _, e, h1, h2, _⟩ := hb
  rw [e] at e2
  cases e2
  exact ⟨h1, h2⟩
 unfold maxLen at hm1 hm2
 obtain ⟨n1, hn1⟩ : ∃ n, xs.length = n := ⟨_, rfl⟩
 obtain ⟨n2, hn2⟩ : ∃ n, ys.length = n := ⟨_, rfl⟩
 rw [hn1] at e1 hm1
 rw [hn2] at e2 hm2
 obtain ⟨hc1, hc2⟩ := hm1
 obtain ⟨hc3, hc4⟩ := hm2
 have HA := hide (Ya ha (Ya hb (Ya hf (Ya hn1 hn2))))
 have HV := hide (Ya e1 e2)
 rw [e1, e2]
 clear ha hb hf e1 e2 hn1 hn2
 by_cases hlen : n1 = n2
 ·
  subst hlen
  go_enter Tryz.func72, Tryz.ntmps72
  go_wp2_with fail
  go_loopw [17] (fun i wr => ∃ j : Nat, i = .int .i64 (j : Int) ∧ j ≤ n1 ∧ Hid (Below w.heap.size w wr ∧ ∀ q x y, q < j → xs[q]? = some x → ys[q]? = some y → eq x y = true)) (fun i _ => n1 - (intOf i).toNat)
  case atStart => exact ⟨0, rfl, Nat.zero_le _, hide ⟨Below.refl _ _, fun q _ _ hq => absurd hq (Nat.not_lt_zero _)⟩⟩
  obtain ⟨j, rfl, hj, HB⟩ := hrel
  by_cases hlt : j < n1
  ·
   obtain ⟨ha, hb, hf, hn1, hn2⟩ := Qa HA
   obtain ⟨bw, hall⟩ := Qa HB
   obtain ⟨x, hx⟩ : ∃ x, xs[j]? = some x := ⟨xs[j]'(by omega), List.getElem?_eq_getElem _⟩
   obtain ⟨y, hy⟩ : ∃ y, ys[j]? = some y := ⟨ys[j]'(by omega), List.getElem?_eq_getElem _⟩
   obtain ⟨b1, q1, cs1, ev1, hb1, _, hl1, hp1, hc1'⟩ := (ha.later hp bw).elem hx
   obtain ⟨b2, q2, cs2, ev2, hb2, _, hl2, hp2, hc2'⟩ := (hb.later hp bw).elem hy
   obtain ⟨c0, c1, rfl⟩ := Jcp hl1
   obtain ⟨d0, d1, rfl⟩ := Jcp hl2
   rw [(Qa HV).1, hn1] at ev1
   rw [(Qa HV).2, hn2] at ev2
   simp only [Value.slice.injEq] at ev1 ev2
   obtain ⟨rfl, -, -⟩ := ev1
   obtain ⟨rfl, -, -⟩ := ev2
   have h1 := hone _ _ _ _ hp1
   have h2 := hone _ _ _ _ hp2
   obtain ⟨W1, hW1⟩ : ∃ W1, W1 = wr.alloc (.cells #[c0, c1] 119) := ⟨_, rfl⟩
   obtain ⟨W2, hW2⟩ : ∃ W2, W2 = W1.alloc (.cells #[d0, d1] 119) := ⟨_, rfl⟩
   have s1 : W1.heap.size = wr.heap.size + 1 := by rw [hW1]; simp
   have B1 : Below wr.heap.size wr W1 := bnw hW1
   have B2 : Below wr.heap.size wr W2 := by rw [hW2]; exact B1.alloc B1.size _
   have m1 : W1.heap[wr.heap.size]? = some (.cells #[c0, c1] 119 (0, 0)) := nnw hW1
   have m2 : W2.heap[W1.heap.size]? = some (.cells #[d0, d1] 119 (0, 0)) := nnw hW2
   have m3 : W2.heap[wr.heap.size]? = some (.cells #[c0, c1] 119 (0, 0)) := by rw [hW2, Below.heap_alloc _ _ _ (by omega)]; exact m1
   have L1 := Qlt (w := wr) (b := b1) (o := j * 2) hc1'
   have N1 := Jcz wr h1
   have L2 := Qlt (w := W1) (b := b2) (o := j * 2) (fun q c hq => by rw [B1.cell (p := ⟨b2, _, none⟩) hb2]; exact hc2' q c hq)
   have N2 := Jcz W1 h2
   have L3 := Qlt (w := W2) (b := wr.heap.size) (o := 0) (fun q c hq => by rw [Qab m3, Nat.zero_add]; simpa using hq)
   have L4 := Qlt (w := W2) (b := W1.heap.size) (o := 0) (fun q c hq => by rw [Qab m2, Nat.zero_add]; simpa using hq)
   have hcl := hf j x y hx hy W2 c0 c1 d0 d1 (bw.trans (B2.mono bw.size)) (hp.same _ _ _ _ _ hp1 B2.size (fun b _ hl => B2.block b hl)) (hp.same _ _ _ _ _ hp2 B2.size (fun b _ hl => B2.block b hl))
   rw [← hW1] at N1
   rw [← hW2] at N2
   obtain ⟨r, hr⟩ : ∃ r, r = eq x y := ⟨_, rfl⟩
   rw [← hr] at hcl
   have HF := hide (Ya hx (Ya hy (Ya hall (Ya (bw.trans (B2.mono bw.size)) hr))))
   clear ha hb hf bw hall hx hy hc1' hc2' hp1 hp2 hl1 hl2 h1 h2 hW1 hW2 s1 B1 B2 m1 m2 m3 hn1 hn2 HA HV hb1 hb2 hr HB
   cases r
   ·
    go_wp2_with fail
    refine hcl.mono ?_
    clear hcl
    rintro en w4 ⟨rfl, b4⟩
    have B4 := hide b4
    clear b4 L1 N1 L2 N2 L3 L4
    go_wp2_with fail
    go_ret
    obtain ⟨hx, hy, hall, bw, hr⟩ := Qa HF
    exact ⟨by rw [Qai hx hy hr.symm]; rfl, bw.trans ((Qa B4).mono bw.size)⟩
   go_wp2_with fail
   refine hcl.mono ?_
   clear hcl
   rintro en w4 ⟨rfl, b4⟩
   have B4 := hide b4
   clear b4 L1 N1 L2 N2 L3 L4
   go_wp2_with fail
   go_roundw
   case rel =>
    obtain ⟨hx, hy, hall, bw, hr⟩ := Qa HF
    refine ⟨j + 1, by go_num, by omega, hide ⟨bw.trans ((Qa B4).mono bw.size), fun q x' y' hq hx' hy' => ?_⟩⟩
    by_cases e : q = j
    ·
     subst e
     rw [hx] at hx'
     rw [hy] at hy'
     cases hx'
     cases hy'
     exact hr.symm
    · exact hall q x' y' (by omega) hx' hy'
   case measure => simp [intOf]; omega
  obtain ⟨bw, hall⟩ := Qa HB
  have HF := hide (Ya bw hall)
  clear bw hall HB
  go_wp2_with fail
  go_ret
  obtain ⟨bw, hall⟩ := Qa HF
  obtain ⟨_, _, _, hn1, hn2⟩ := Qa HA
  exact ⟨by rw [Qbd (by omega) (fun q x' y' hx' hy' => hall q x' y' (by have := (List.getElem?_eq_some_iff.1 hx').1; omega) hx' hy')]; rfl, bw⟩
 have hne : ((n1 : Int) != (n2 : Int)) = true := by simp; omega
 go_enter Tryz.func72, Tryz.ntmps72
 go_wp2_with fail
 go_ret
 obtain ⟨_, _, _, hn1, hn2⟩ := Qa HA
 exact ⟨by rw [Qbo (by omega)]; rfl, Below.refl _ _⟩
end
section
open Go.RowKit Go.Maps
def qtLoad (a : Value) : Sem Value := Instr.loadAt 94 a
theorem Qxc (a : Value) : Instr.loadAt 94 a = qtLoad a := rfl
def qtStore (p v : Value) : Sem Unit := Instr.storeAt 94 p v
theorem Qtz (p v : Value) : Instr.storeAt 94 p v = qtStore p v := rfl
theorem Qyy : (Tryz.prog.info? 94).map (·.size) = some 4 := by kernel_rfl
theorem Qlx {w : World} {b o : Nat} {c0 c1 c2 c3 : Value} (h : ∀ q c, ([c0, c1, c2, c3] : List Value)[q]? = some c → w.cell? ⟨b, o + q, none⟩ = some c) : (qtLoad (.pointer (some ⟨b, o, none⟩))).run Tryz.prog w = .ok (.agg #[c0, c1, c2, c3]) w :=
 run_loadAt_mid w b o 94 [c0, c1, c2, c3] _ (fun q v hq => h q v hq) Tryz.underlying94 rfl Qyy
theorem Jdg (w : World) {c0 c1 c2 c3 : Value} (h1 : ∀ c ∈ ([c0, c1, c2, c3] : List Value), c.oneCell' = true) : (qtStore (.pointer (some ⟨w.heap.size, 0, none⟩)) (.agg #[c0, c1, c2, c3])).run Tryz.prog (w.alloc (.cells #[.string ⟨#[]⟩, .string ⟨#[]⟩, .slice none 0 0, .int .i64 0] 94)) = .ok () (w.alloc (.cells #[c0, c1, c2, c3] 94)) :=
 run_storeAt_new w 94 _ _ Qyy rfl (by simpa using h1)
theorem Jct {cs : List Value} (h : cs.length = 4) : ∃ c0 c1 c2 c3, cs = [c0, c1, c2, c3] := by
 match cs, h with
 | [c0, c1, c2, c3], _ => exact ⟨c0, c1, c2, c3, rfl⟩
attribute [local go_sem ↓] Qxc Qtz
theorem eqf_t {α : Type} {p : PS α} (hp : PSok p) (hone : ∀ S w cs x, p S w cs x → ∀ c ∈ cs, c.oneCell' = true) {S : Nat → Prop} {w : World} {va vb : Value} {xs ys : List α} (eq : α → α → Bool) (ha : LsAt p 4 S w va xs) (hb : LsAt p 4 S w vb ys)
  (hf : ∀ (j : Nat) (x y : α), xs[j]? = some x → ys[j]? = some y → ∀ w' c0 c1 c2 c3 d0 d1 d2 d3, Below w.heap.size w w' → p S w' [c0, c1, c2, c3] x → p S w' [d0, d1, d2, d3] y → Calls Tryz.prog 37 #[.agg #[c0, c1, c2, c3], .agg #[d0, d1, d2, d3]] w' fun en w2 => en = .returned (.bool (eq x y)) ∧ Below w'.heap.size w' w2) :
  Calls Tryz.prog 36 #[va, vb, .func (.func 37) #[] #[]] w fun en w' => en = .returned (.bool (eqL eq xs ys)) ∧ Below w.heap.size w w' := by
 obtain ⟨a1, p1, e1⟩ := ha.sl
 obtain ⟨a2, p2, e2⟩ := hb.sl
 have hm1 : xs.length ≤ p1 ∧ p1 ≤ maxLen := by
  obtain ⟨_, _, _, e, h1, h2, _⟩ := ha
  rw [e] at e1
  cases e1
  exact ⟨h1, h2⟩
 have hm2 : ys.length ≤ p2 ∧ p2 ≤ maxLen := by
  obtain ⟨_, _, _, e, h1, h2, _⟩ := hb
  rw [e] at e2
  cases e2
  exact ⟨h1, h2⟩
 unfold maxLen at hm1 hm2
 obtain ⟨n1, hn1⟩ : ∃ n, xs.length = n := ⟨_, rfl⟩
 obtain ⟨n2, hn2⟩ : ∃ n, ys.length = n := ⟨_, rfl⟩
 rw [hn1] at e1 hm1
 rw [hn2] at e2 hm2
 obtain ⟨hc1, hc2⟩ := hm1
 obtain ⟨hc3, hc4⟩ := hm2
 have HA := hide (Ya ha (Ya hb (Ya hf (Ya hn1 hn2))))
 have HV := hide (Ya e1 e2)
 rw [e1, e2]
 clear ha hb hf e1 e2 hn1 hn2
 by_cases hlen : n1 = n2
 ·
  subst hlen
  go_enter Tryz.func36, Tryz.ntmps36
  go_wp2_with fail
  go_loopw [17] (fun i wr => ∃ j : Nat, i = .int .i64 (j : Int) ∧ j ≤ n1 ∧ Hid (Below w.heap.size w wr ∧ ∀ q x y, q < j → xs[q]? = some x → ys[q]? = some y → eq x y = true)) (fun i _ => n1 - (intOf i).toNat)
  case atStart => exact ⟨0, rfl, Nat.zero_le _, hide ⟨Below.refl _ _, fun q _ _ hq => absurd hq (Nat.not_lt_zero _)⟩⟩
  obtain ⟨j, rfl, hj, HB⟩ := hrel
  by_cases hlt : j < n1
  ·
   obtain ⟨ha, hb, hf, hn1, hn2⟩ := Qa HA
   obtain ⟨bw, hall⟩ := Qa HB
   obtain ⟨x, hx⟩ : ∃ x, xs[j]? = some x := ⟨xs[j]'(by omega), List.getElem?_eq_getElem _⟩
   obtain ⟨y, hy⟩ : ∃ y, ys[j]? = some y := ⟨ys[j]'(by omega), List.getElem?_eq_getElem _⟩
   obtain ⟨b1, q1, cs1, ev1, hb1, _, hl1, hp1, hc1'⟩ := (ha.later hp bw).elem hx
   obtain ⟨b2, q2, cs2, ev2, hb2, _, hl2, hp2, hc2'⟩ := (hb.later hp bw).elem hy
   obtain ⟨c0, c1, c2, c3, rfl⟩ := Jct hl1
   obtain ⟨d0, d1, d2, d3, rfl⟩ := Jct hl2
   rw [(Qa HV).1, hn1] at ev1
   rw [(Qa HV).2, hn2] at ev2
   simp only [Value.slice.injEq] at ev1 ev2
   obtain ⟨rfl, -, -⟩ := ev1
   obtain ⟨rfl, -, -⟩ := ev2
   have h1 := hone _ _ _ _ hp1
   have h2 := hone _ _ _ _ hp2
   obtain ⟨W1, hW1⟩ : ∃ W1, W1 = wr.alloc (.cells #[c0, c1, c2, c3] 94) := ⟨_, rfl⟩
   obtain ⟨W2, hW2⟩ : ∃ W2, W2 = W1.alloc (.cells #[d0, d1, d2, d3] 94) := ⟨_, rfl⟩
   have s1 : W1.heap.size = wr.heap.size + 1 := by rw [hW1]; simp
   have B1 : Below wr.heap.size wr W1 := bnw hW1
   have B2 : Below wr.heap.size wr W2 := by rw [hW2]; exact B1.alloc B1.size _
   have m1 : W1.heap[wr.heap.size]? = some (.cells #[c0, c1, c2, c3] 94 (0, 0)) := nnw hW1
   have m2 : W2.heap[W1.heap.size]? = some (.cells #[d0, d1, d2, d3] 94 (0, 0)) := nnw hW2
   have m3 : W2.heap[wr.heap.size]? = some (.cells #[c0, c1, c2, c3] 94 (0, 0)) := by rw [hW2, Below.heap_alloc _ _ _ (by omega)]; exact m1
   have L1 := Qlx (w := wr) (b := b1) (o := j * 4) hc1'
   have N1 := Jdg wr h1
   have L2 := Qlx (w := W1) (b := b2) (o := j * 4) (fun q c hq => by rw [B1.cell (p := ⟨b2, _, none⟩) hb2]; exact hc2' q c hq)
   have N2 := Jdg W1 h2
   have L3 := Qlx (w := W2) (b := wr.heap.size) (o := 0) (fun q c hq => by rw [Qab m3, Nat.zero_add]; simpa using hq)
   have L4 := Qlx (w := W2) (b := W1.heap.size) (o := 0) (fun q c hq => by rw [Qab m2, Nat.zero_add]; simpa using hq)
   have hcl := hf j x y hx hy W2 c0 c1 c2 c3 d0 d1 d2 d3 (bw.trans (B2.mono bw.size)) (hp.same _ _ _ _ _ hp1 B2.size (fun b _ hl => B2.block b hl)) (hp.same _ _ _ _ _ hp2 B2.size (fun b _ hl => B2.block b hl))
   rw [← hW1] at N1
   rw [← hW2] at N2
   obtain ⟨r, hr⟩ : ∃ r, r = eq x y := ⟨_, rfl⟩
   rw [← hr] at hcl
   have HF := hide (Ya hx (Ya hy (Ya hall (Ya (bw.trans (B2.mono bw.size)) hr))))
   clear ha hb hf bw hall hx hy hc1' hc2' hp1 hp2 hl1 hl2 h1 h2 hW1 hW2 s1 B1 B2 m1 m2 m3 hn1 hn2 HA HV hb1 hb2 hr HB
   cases r
   ·
    go_wp2_with fail
    refine hcl.mono ?_
    clear hcl
    rintro en w4 ⟨rfl, b4⟩
    have B4 := hide b4
    clear b4 L1 N1 L2 N2 L3 L4
    go_wp2_with fail
    go_ret
    obtain ⟨hx, hy, hall, bw, hr⟩ := Qa HF
    exact ⟨by rw [Qai hx hy hr.symm]; rfl, bw.trans ((Qa B4).mono bw.size)⟩
   go_wp2_with fail
   refine hcl.mono ?_
   clear hcl
   rintro en w4 ⟨rfl, b4⟩
   have B4 := hide b4
   clear b4 L1 N1 L2 N2 L3 L4
   go_wp2_with fail
   go_roundw
   case rel =>
    obtain ⟨hx, hy, hall, bw, hr⟩ := Qa HF
    refine ⟨j + 1, by go_num, by omega, hide ⟨bw.trans ((Qa B4).mono bw.size), fun q x' y' hq hx' hy' => ?_⟩⟩
    by_cases e : q = j
    ·
     subst e
     rw [hx] at hx'
     rw [hy] at hy'
     cases hx'
     cases hy'
     exact hr.symm
    · exact hall q x' y' (by omega) hx' hy'
   case measure => simp [intOf]; omega
  obtain ⟨bw, hall⟩ := Qa HB
  have HF := hide (Ya bw hall)
  clear bw hall HB
  go_wp2_with fail
  go_ret
  obtain ⟨bw, hall⟩ := Qa HF
  obtain ⟨_, _, _, hn1, hn2⟩ := Qa HA
  exact ⟨by rw [Qbd (by omega) (fun q x' y' hx' hy' => hall q x' y' (by have := (List.getElem?_eq_some_iff.1 hx').1; omega) hx' hy')]; rfl, bw⟩
 have hne : ((n1 : Int) != (n2 : Int)) = true := by simp; omega
 go_enter Tryz.func36, Tryz.ntmps36
 go_wp2_with fail
 go_ret
 obtain ⟨_, _, _, hn1, hn2⟩ := Qa HA
 exact ⟨by rw [Qbo (by omega)]; rfl, Below.refl _ _⟩
end
section
open Go.RowKit Go.Maps
def qdLoad (a : Value) : Sem Value := Instr.loadAt 99 a
theorem Qwz (a : Value) : Instr.loadAt 99 a = qdLoad a := rfl
def qdStore (p v : Value) : Sem Unit := Instr.storeAt 99 p v
theorem Qtv (p v : Value) : Instr.storeAt 99 p v = qdStore p v := rfl
theorem Qyt : (Tryz.prog.info? 99).map (·.size) = some 5 := by kernel_rfl
theorem Qlu {w : World} {b o : Nat} {c0 c1 c2 c3 c4 : Value} (h : ∀ q c, ([c0, c1, c2, c3, c4] : List Value)[q]? = some c → w.cell? ⟨b, o + q, none⟩ = some c) : (qdLoad (.pointer (some ⟨b, o, none⟩))).run Tryz.prog w = .ok (.agg #[c0, c1, c2, c3, c4]) w :=
 run_loadAt_mid w b o 99 [c0, c1, c2, c3, c4] _ (fun q v hq => h q v hq) Tryz.underlying99 rfl Qyt
theorem Jd (w : World) {c0 c1 c2 c3 c4 : Value} (h1 : ∀ c ∈ ([c0, c1, c2, c3, c4] : List Value), c.oneCell' = true) : (qdStore (.pointer (some ⟨w.heap.size, 0, none⟩)) (.agg #[c0, c1, c2, c3, c4])).run Tryz.prog (w.alloc (.cells #[.string ⟨#[]⟩, .slice none 0 0, .bool false, .bool false, .int .i64 0] 99)) = .ok () (w.alloc (.cells #[c0, c1, c2, c3, c4] 99)) :=
 run_storeAt_new w 99 _ _ Qyt rfl (by simpa using h1)
theorem Qra {cs : List Value} (h : cs.length = 5) : ∃ c0 c1 c2 c3 c4, cs = [c0, c1, c2, c3, c4] := by
 match cs, h with
 | [c0, c1, c2, c3, c4], _ => exact ⟨c0, c1, c2, c3, c4, rfl⟩
attribute [local go_sem ↓] Qwz Qtv
theorem eqf_d {α : Type} {p : PS α} (hp : PSok p) (hone : ∀ S w cs x, p S w cs x → ∀ c ∈ cs, c.oneCell' = true) {S : Nat → Prop} {w : World} {va vb : Value} {xs ys : List α} (eq : α → α → Bool) (ha : LsAt p 5 S w va xs) (hb : LsAt p 5 S w vb ys)
  (hf : ∀ (j : Nat) (x y : α), xs[j]? = some x → ys[j]? = some y → ∀ w' c0 c1 c2 c3 c4 d0 d1 d2 d3 d4, Below w.heap.size w w' → p S w' [c0, c1, c2, c3, c4] x → p S w' [d0, d1, d2, d3, d4] y → Calls Tryz.prog 39 #[.agg #[c0, c1, c2, c3, c4], .agg #[d0, d1, d2, d3, d4]] w' fun en w2 => en = .returned (.bool (eq x y)) ∧ Below w'.heap.size w' w2) :
  Calls Tryz.prog 38 #[va, vb, .func (.func 39) #[] #[]] w fun en w' => en = .returned (.bool (eqL eq xs ys)) ∧ Below w.heap.size w w' := by
 obtain ⟨a1, p1, e1⟩ := ha.sl
 obtain ⟨a2, p2, e2⟩ := hb.sl
 have hm1 : xs.length ≤ p1 ∧ p1 ≤ maxLen := by
  obtain ⟨_, _, _, e, h1, h2, _⟩ := ha
  rw [e] at e1
  cases e1
  exact ⟨h1, h2⟩
 have hm2 : ys.length ≤ p2 ∧ p2 ≤ maxLen := by
  obtain ⟨_, _, _, e, h1, h2, _⟩ := hb
  rw [e] at e2
  cases e2
  exact ⟨h1, h2⟩
 unfold maxLen at hm1 hm2
 obtain ⟨n1, hn1⟩ : ∃ n, xs.length = n := ⟨_, rfl⟩
 obtain ⟨n2, hn2⟩ : ∃ n, ys.length = n := ⟨_, rfl⟩
 rw [hn1] at e1 hm1
 rw [hn2] at e2 hm2
 obtain ⟨hc1, hc2⟩ := hm1
 obtain ⟨hc3, hc4⟩ := hm2
 have HA := hide (Ya ha (Ya hb (Ya hf (Ya hn1 hn2))))
 have HV := hide (Ya e1 e2)
 rw [e1, e2]
 clear ha hb hf e1 e2 hn1 hn2
 by_cases hlen : n1 = n2
 ·
  subst hlen
  go_enter Tryz.func38, Tryz.ntmps38
  go_wp2_with fail
  go_loopw [17] (fun i wr => ∃ j : Nat, i = .int .i64 (j : Int) ∧ j ≤ n1 ∧ Hid (Below w.heap.size w wr ∧ ∀ q x y, q < j → xs[q]? = some x → ys[q]? = some y → eq x y = true)) (fun i _ => n1 - (intOf i).toNat)
  case atStart => exact ⟨0, rfl, Nat.zero_le _, hide ⟨Below.refl _ _, fun q _ _ hq => absurd hq (Nat.not_lt_zero _)⟩⟩
  obtain ⟨j, rfl, hj, HB⟩ := hrel
  by_cases hlt : j < n1
  ·
   obtain ⟨ha, hb, hf, hn1, hn2⟩ := Qa HA
   obtain ⟨bw, hall⟩ := Qa HB
   obtain ⟨x, hx⟩ : ∃ x, xs[j]? = some x := ⟨xs[j]'(by omega), List.getElem?_eq_getElem _⟩
   obtain ⟨y, hy⟩ : ∃ y, ys[j]? = some y := ⟨ys[j]'(by omega), List.getElem?_eq_getElem _⟩
   obtain ⟨b1, q1, cs1, ev1, hb1, _, hl1, hp1, hc1'⟩ := (ha.later hp bw).elem hx
   obtain ⟨b2, q2, cs2, ev2, hb2, _, hl2, hp2, hc2'⟩ := (hb.later hp bw).elem hy
   obtain ⟨c0, c1, c2, c3, c4, rfl⟩ := Qra hl1
   obtain ⟨d0, d1, d2, d3, d4, rfl⟩ := Qra hl2
   rw [(Qa HV).1, hn1] at ev1
   rw [(Qa HV).2, hn2] at ev2
   simp only [Value.slice.injEq] at ev1 ev2
   obtain ⟨rfl, -, -⟩ := ev1
   obtain ⟨rfl, -, -⟩ := ev2
   have h1 := hone _ _ _ _ hp1
   have h2 := hone _ _ _ _ hp2
   obtain ⟨W1, hW1⟩ : ∃ W1, W1 = wr.alloc (.cells #[c0, c1, c2, c3, c4] 99) := ⟨_, rfl⟩
   obtain ⟨W2, hW2⟩ : ∃ W2, W2 = W1.alloc (.cells #[d0, d1, d2, d3, d4] 99) := ⟨_, rfl⟩
   have s1 : W1.heap.size = wr.heap.size + 1 := by rw [hW1]; simp
   have B1 : Below wr.heap.size wr W1 := bnw hW1
   have B2 : Below wr.heap.size wr W2 := by rw [hW2]; exact B1.alloc B1.size _
   have m1 : W1.heap[wr.heap.size]? = some (.cells #[c0, c1, c2, c3, c4] 99 (0, 0)) := nnw hW1
   have m2 : W2.heap[W1.heap.size]? = some (.cells #[d0, d1, d2, d3, d4] 99 (0, 0)) := nnw hW2
   have m3 : W2.heap[wr.heap.size]? = some (.cells #[c0, c1, c2, c3, c4] 99 (0, 0)) := by rw [hW2, Below.heap_alloc _ _ _ (by omega)]; exact m1
   have L1 := Qlu (w := wr) (b := b1) (o := j * 5) hc1'
   have N1 := Jd wr h1
   have L2 := Qlu (w := W1) (b := b2) (o := j * 5) (fun q c hq => by rw [B1.cell (p := ⟨b2, _, none⟩) hb2]; exact hc2' q c hq)
   have N2 := Jd W1 h2
   have L3 := Qlu (w := W2) (b := wr.heap.size) (o := 0) (fun q c hq => by rw [Qab m3, Nat.zero_add]; simpa using hq)
   have L4 := Qlu (w := W2) (b := W1.heap.size) (o := 0) (fun q c hq => by rw [Qab m2, Nat.zero_add]; simpa using hq)
   have hcl := hf j x y hx hy W2 c0 c1 c2 c3 c4 d0 d1 d2 d3 d4 (bw.trans (B2.mono bw.size)) (hp.same _ _ _ _ _ hp1 B2.size (fun b _ hl => B2.block b hl)) (hp.same _ _ _ _ _ hp2 B2.size (fun b _ hl => B2.block b hl))
   rw [← hW1] at N1
   rw [← hW2] at N2
   obtain ⟨r, hr⟩ : ∃ r, r = eq x y := ⟨_, rfl⟩
   rw [← hr] at hcl
   have HF := hide (Ya hx (Ya hy (Ya hall (Ya (bw.trans (B2.mono bw.size)) hr))))
   clear ha hb hf bw hall hx hy hc1' hc2' hp1 hp2 hl1 hl2 h1 h2 hW1 hW2 s1 B1 B2 m1 m2 m3 hn1 hn2 HA HV hb1 hb2 hr HB
   cases r
   ·
    go_wp2_with fail
    refine hcl.mono ?_
    clear hcl
    rintro en w4 ⟨rfl, b4⟩
    have B4 := hide b4
    clear b4 L1 N1 L2 N2 L3 L4
    go_wp2_with fail
    go_ret
    obtain ⟨hx, hy, hall, bw, hr⟩ := Qa HF
    exact ⟨by rw [Qai hx hy hr.symm]; rfl, bw.trans ((Qa B4).mono bw.size)⟩
   go_wp2_with fail
   refine hcl.mono ?_
   clear hcl
   rintro en w4 ⟨rfl, b4⟩
   have B4 := hide b4
   clear b4 L1 N1 L2 N2 L3 L4
   go_wp2_with fail
   go_roundw
   case rel =>
    obtain ⟨hx, hy, hall, bw, hr⟩ := Qa HF
    refine ⟨j + 1, by go_num, by omega, hide ⟨bw.trans ((Qa B4).mono bw.size), fun q x' y' hq hx' hy' => ?_⟩⟩
    by_cases e : q = j
    ·
     subst e
     rw [hx] at hx'
     rw [hy] at hy'
     cases hx'
     cases hy'
     exact hr.symm
    · exact hall q x' y' (by omega) hx' hy'
   case measure => simp [intOf]; omega
  obtain ⟨bw, hall⟩ := Qa HB
  have HF := hide (Ya bw hall)
  clear bw hall HB
  go_wp2_with fail
  go_ret
  obtain ⟨bw, hall⟩ := Qa HF
  obtain ⟨_, _, _, hn1, hn2⟩ := Qa HA
  exact ⟨by rw [Qbd (by omega) (fun q x' y' hx' hy' => hall q x' y' (by have := (List.getElem?_eq_some_iff.1 hx').1; omega) hx' hy')]; rfl, bw⟩
 have hne : ((n1 : Int) != (n2 : Int)) = true := by simp; omega
 go_enter Tryz.func38, Tryz.ntmps38
 go_wp2_with fail
 go_ret
 obtain ⟨_, _, _, hn1, hn2⟩ := Qa HA
 exact ⟨by rw [Qbo (by omega)]; rfl, Below.refl _ _⟩
end
section
open Go.RowKit Go.Maps
def qpLoad (a : Value) : Sem Value := Instr.loadAt 72 a
theorem Qxb (a : Value) : Instr.loadAt 72 a = qpLoad a := rfl
def qpStore (p v : Value) : Sem Unit := Instr.storeAt 72 p v
theorem Qtx (p v : Value) : Instr.storeAt 72 p v = qpStore p v := rfl
theorem Qyw : (Tryz.prog.info? 72).map (·.size) = some 8 := by kernel_rfl
theorem Qlw {w : World} {b o : Nat} {c0 c1 c2 c3 c4 c5 c6 c7 : Value} (h : ∀ q c, ([c0, c1, c2, c3, c4, c5, c6, c7] : List Value)[q]? = some c → w.cell? ⟨b, o + q, none⟩ = some c) : (qpLoad (.pointer (some ⟨b, o, none⟩))).run Tryz.prog w = .ok (.agg #[c0, c1, c2, c3, c4, c5, c6, c7]) w :=
 run_loadAt_mid w b o 72 [c0, c1, c2, c3, c4, c5, c6, c7] _ (fun q v hq => h q v hq) Tryz.underlying72 rfl Qyw
theorem Jde (w : World) {c0 c1 c2 c3 c4 c5 c6 c7 : Value} (h1 : ∀ c ∈ ([c0, c1, c2, c3, c4, c5, c6, c7] : List Value), c.oneCell' = true) : (qpStore (.pointer (some ⟨w.heap.size, 0, none⟩)) (.agg #[c0, c1, c2, c3, c4, c5, c6, c7])).run Tryz.prog (w.alloc (.cells #[.string ⟨#[]⟩, .slice none 0 0, .slice none 0 0, .slice none 0 0, .slice none 0 0, .slice none 0 0, .slice none 0 0, .int .i64 0] 72)) = .ok () (w.alloc (.cells #[c0, c1, c2, c3, c4, c5, c6, c7] 72)) :=
 run_storeAt_new w 72 _ _ Qyw rfl (by simpa using h1)
theorem Jcs {cs : List Value} (h : cs.length = 8) : ∃ c0 c1 c2 c3 c4 c5 c6 c7, cs = [c0, c1, c2, c3, c4, c5, c6, c7] := by
 match cs, h with
 | [c0, c1, c2, c3, c4, c5, c6, c7], _ => exact ⟨c0, c1, c2, c3, c4, c5, c6, c7, rfl⟩
attribute [local go_sem ↓] Qxb Qtx
theorem eqf_p {α : Type} {p : PS α} (hp : PSok p) (hone : ∀ S w cs x, p S w cs x → ∀ c ∈ cs, c.oneCell' = true) {S : Nat → Prop} {w : World} {va vb : Value} {xs ys : List α} (eq : α → α → Bool) (ha : LsAt p 8 S w va xs) (hb : LsAt p 8 S w vb ys)
  (hf : ∀ (j : Nat) (x y : α), xs[j]? = some x → ys[j]? = some y → ∀ w' c0 c1 c2 c3 c4 c5 c6 c7 d0 d1 d2 d3 d4 d5 d6 d7, Below w.heap.size w w' → p S w' [c0, c1, c2, c3, c4, c5, c6, c7] x → p S w' [d0, d1, d2, d3, d4, d5, d6, d7] y → Calls Tryz.prog 41 #[.agg #[c0, c1, c2, c3, c4, c5, c6, c7], .agg #[d0, d1, d2, d3, d4, d5, d6, d7]] w' fun en w2 => en = .returned (.bool (eq x y)) ∧ Below w'.heap.size w' w2) :
  Calls Tryz.prog 40 #[va, vb, .func (.func 41) #[] #[]] w fun en w' => en = .returned (.bool (eqL eq xs ys)) ∧ Below w.heap.size w w' := by
 obtain ⟨a1, p1, e1⟩ := ha.sl
 obtain ⟨a2, p2, e2⟩ := hb.sl
 have hm1 : xs.length ≤ p1 ∧ p1 ≤ maxLen := by
  obtain ⟨_, _, _, e, h1, h2, _⟩ := ha
  rw [e] at e1
  cases e1
  exact ⟨h1, h2⟩
 have hm2 : ys.length ≤ p2 ∧ p2 ≤ maxLen := by
  obtain ⟨_, _, _, e, h1, h2, _⟩ := hb
  rw [e] at e2
  cases e2
  exact ⟨h1, h2⟩
 unfold maxLen at hm1 hm2
 obtain ⟨n1, hn1⟩ : ∃ n, xs.length = n := ⟨_, rfl⟩
 obtain ⟨n2, hn2⟩ : ∃ n, ys.length = n := ⟨_, rfl⟩
 rw [hn1] at e1 hm1
 rw [hn2] at e2 hm2
 obtain ⟨hc1, hc2⟩ := hm1
 obtain ⟨hc3, hc4⟩ := hm2
 have HA := hide (Ya ha (Ya hb (Ya hf (Ya hn1 hn2))))
 have HV := hide (Ya e1 e2)
 rw [e1, e2]
 clear ha hb hf e1 e2 hn1 hn2
 by_cases hlen : n1 = n2
 ·
  subst hlen
  go_enter Tryz.func40, Tryz.ntmps40
  go_wp2_with fail
  go_loopw [17] (fun i wr => ∃ j : Nat, i = .int .i64 (j : Int) ∧ j ≤ n1 ∧ Hid (Below w.heap.size w wr ∧ ∀ q x y, q < j → xs[q]? = some x → ys[q]? = some y → eq x y = true)) (fun i _ => n1 - (intOf i).toNat)
  case atStart => exact ⟨0, rfl, Nat.zero_le _, hide ⟨Below.refl _ _, fun q _ _ hq => absurd hq (Nat.not_lt_zero _)⟩⟩
  obtain ⟨j, rfl, hj, HB⟩ := hrel
  by_cases hlt : j < n1
  ·
   obtain ⟨ha, hb, hf, hn1, hn2⟩ := Qa HA
   obtain ⟨bw, hall⟩ := Qa HB
   obtain ⟨x, hx⟩ : ∃ x, xs[j]? = some x := ⟨xs[j]'(by omega), List.getElem?_eq_getElem _⟩
   obtain ⟨y, hy⟩ : ∃ y, ys[j]? = some y := ⟨ys[j]'(by omega), List.getElem?_eq_getElem _⟩
   obtain ⟨b1, q1, cs1, ev1, hb1, _, hl1, hp1, hc1'⟩ := (ha.later hp bw).elem hx
   obtain ⟨b2, q2, cs2, ev2, hb2, _, hl2, hp2, hc2'⟩ := (hb.later hp bw).elem hy
   obtain ⟨c0, c1, c2, c3, c4, c5, c6, c7, rfl⟩ := Jcs hl1
   obtain ⟨d0, d1, d2, d3, d4, d5, d6, d7, rfl⟩ := Jcs hl2
   rw [(Qa HV).1, hn1] at ev1
   rw [(Qa HV).2, hn2] at ev2
   simp only [Value.slice.injEq] at ev1 ev2
   obtain ⟨rfl, -, -⟩ := ev1
   obtain ⟨rfl, -, -⟩ := ev2
   have h1 := hone _ _ _ _ hp1
   have h2 := hone _ _ _ _ hp2
   obtain ⟨W1, hW1⟩ : ∃ W1, W1 = wr.alloc (.cells #[c0, c1, c2, c3, c4, c5, c6, c7] 72) := ⟨_, rfl⟩
   obtain ⟨W2, hW2⟩ : ∃ W2, W2 = W1.alloc (.cells #[d0, d1, d2, d3, d4, d5, d6, d7] 72) := ⟨_, rfl⟩
   have s1 : W1.heap.size = wr.heap.size + 1 := by rw [hW1]; simp
   have B1 : Below wr.heap.size wr W1 := bnw hW1
   have B2 : Below wr.heap.size wr W2 := by rw [hW2]; exact B1.alloc B1.size _
   have m1 : W1.heap[wr.heap.size]? = some (.cells #[c0, c1, c2, c3, c4, c5, c6, c7] 72 (0, 0)) := nnw hW1
   have m2 : W2.heap[W1.heap.size]? = some (.cells #[d0, d1, d2, d3, d4, d5, d6, d7] 72 (0, 0)) := nnw hW2
   have m3 : W2.heap[wr.heap.size]? = some (.cells #[c0, c1, c2, c3, c4, c5, c6, c7] 72 (0, 0)) := by rw [hW2, Below.heap_alloc _ _ _ (by omega)]; exact m1
   have L1 := Qlw (w := wr) (b := b1) (o := j * 8) hc1'
   have N1 := Jde wr h1
   have L2 := Qlw (w := W1) (b := b2) (o := j * 8) (fun q c hq => by rw [B1.cell (p := ⟨b2, _, none⟩) hb2]; exact hc2' q c hq)
   have N2 := Jde W1 h2
   have L3 := Qlw (w := W2) (b := wr.heap.size) (o := 0) (fun q c hq => by rw [Qab m3, Nat.zero_add]; simpa using hq)
   have L4 := Qlw (w := W2) (b := W1.heap.size) (o := 0) (fun q c hq => by rw [Qab m2, Nat.zero_add]; simpa using hq)
   have hcl := hf j x y hx hy W2 c0 c1 c2 c3 c4 c5 c6 c7 d0 d1 d2 d3 d4 d5 d6 d7 (bw.trans (B2.mono bw.size)) (hp.same _ _ _ _ _ hp1 B2.size (fun b _ hl => B2.block b hl)) (hp.same _ _ _ _ _ hp2 B2.size (fun b _ hl => B2.block b hl))
   rw [← hW1] at N1
   rw [← hW2] at N2
   obtain ⟨r, hr⟩ : ∃ r, r = eq x y := ⟨_, rfl⟩
   rw [← hr] at hcl
   have HF := hide (Ya hx (Ya hy (Ya hall (Ya (bw.trans (B2.mono bw.size)) hr))))
   clear ha hb hf bw hall hx hy hc1' hc2' hp1 hp2 hl1 hl2 h1 h2 hW1 hW2 s1 B1 B2 m1 m2 m3 hn1 hn2 HA HV hb1 hb2 hr HB
   cases r
   ·
    go_wp2_with fail
    refine hcl.mono ?_
    clear hcl
    rintro en w4 ⟨rfl, b4⟩
    have B4 := hide b4
    clear b4 L1 N1 L2 N2 L3 L4
    go_wp2_with fail
    go_ret
    obtain ⟨hx, hy, hall, bw, hr⟩ := Qa HF
    exact ⟨by rw [Qai hx hy hr.symm]; rfl, bw.trans ((Qa B4).mono bw.size)⟩
   go_wp2_with fail
   refine hcl.mono ?_
   clear hcl
   rintro en w4 ⟨rfl, b4⟩
   have B4 := hide b4
   clear b4 L1 N1 L2 N2 L3 L4
   go_wp2_with fail
   go_roundw
   case rel =>
    obtain ⟨hx, hy, hall, bw, hr⟩ := Qa HF
    refine ⟨j + 1, by go_num, by omega, hide ⟨bw.trans ((Qa B4).mono bw.size), fun q x' y' hq hx' hy' => ?_⟩⟩
    by_cases e : q = j
    ·
     subst e
     rw [hx] at hx'
     rw [hy] at hy'
     cases hx'
     cases hy'
     exact hr.symm
    · exact hall q x' y' (by omega) hx' hy'
   case measure => simp [intOf]; omega
  obtain ⟨bw, hall⟩ := Qa HB
  have HF := hide (Ya bw hall)
  clear bw hall HB
  go_wp2_with fail
  go_ret
  obtain ⟨bw, hall⟩ := Qa HF
  obtain ⟨_, _, _, hn1, hn2⟩ := Qa HA
  exact ⟨by rw [Qbd (by omega) (fun q x' y' hx' hy' => hall q x' y' (by have := (List.getElem?_eq_some_iff.1 hx').1; omega) hx' hy')]; rfl, bw⟩
 have hne : ((n1 : Int) != (n2 : Int)) = true := by simp; omega
 go_enter Tryz.func40, Tryz.ntmps40
 go_wp2_with fail
 go_ret
 obtain ⟨_, _, _, hn1, hn2⟩ := Qa HA
 exact ⟨by rw [Qbo (by omega)]; rfl, Below.refl _ _⟩
end
end Go.Proofs.YtccehgfecaamoaaGreatDoor
