/- slices.EqualFunc at Init. slices.EqualFunc at Clause. syn: sameExprs, as a chain. syn: sameAtoms, as a chain. syn: sameLits, as a chain. syn: sameCtors, as a chain. syn: sameTypes, as a chain. syn: sameDecls, as a chain. syn: sameInits, as a chain. syn: sameComps, as a chain. -/
import Derived.Test.YtccehgfecaamoaaGreatDoorQb21
set_option maxRecDepth 100000
set_option maxHeartbeats 32000000
namespace Go.Proofs.YtccehgfecaamoaaGreatDoor
section
open Go.RowKit Go.Maps
def qiLoad (a : Value) : Sem Value := Instr.loadAt 77 a
theorem Qxa (a : Value) : Instr.loadAt 77 a = qiLoad a := rfl
def qiStore (p v : Value) : Sem Unit := Instr.storeAt 77 p v
theorem Qtw (p v : Value) : Instr.storeAt 77 p v = qiStore p v := rfl
theorem Qyv : (Tryz.prog.info? 77).map (·.size) = some 3 := by kernel_rfl
theorem Qlv {w : World} {b o : Nat} {c0 c1 c2 : Value} (h : ∀ q c, ([c0, c1, c2] : List Value)[q]? = some c → w.cell? ⟨b, o + q, none⟩ = some c) : (qiLoad (.pointer (some ⟨b, o, none⟩))).run Tryz.prog w = .ok (.agg #[c0, c1, c2]) w :=
 run_loadAt_mid w b o 77 [c0, c1, c2] _ (fun q v hq => h q v hq) Tryz.underlying77 rfl Qyv
theorem Jdb (w : World) {c0 c1 c2 : Value} (h1 : ∀ c ∈ ([c0, c1, c2] : List Value), c.oneCell' = true) : (qiStore (.pointer (some ⟨w.heap.size, 0, none⟩)) (.agg #[c0, c1, c2])).run Tryz.prog (w.alloc (.cells #[.string ⟨#[]⟩, .string ⟨#[]⟩, .int .i64 0] 77)) = .ok () (w.alloc (.cells #[c0, c1, c2] 77)) :=
 run_storeAt_new w 77 _ _ Qyv rfl (by simpa using h1)
theorem Jcq {cs : List Value} (h : cs.length = 3) : ∃ c0 c1 c2, cs = [c0, c1, c2] := by
 match cs, h with
 | [c0, c1, c2], _ => exact ⟨c0, c1, c2, rfl⟩
attribute [local go_sem ↓] Qxa Qtw
theorem eqf_i {α : Type} {p : PS α} (hp : PSok p) (hone : ∀ S w cs x, p S w cs x → ∀ c ∈ cs, c.oneCell' = true) {S : Nat → Prop} {w : World} {va vb : Value} {xs ys : List α} (eq : α → α → Bool) (ha : LsAt p 3 S w va xs) (hb : LsAt p 3 S w vb ys)
  (hf : ∀ (j : Nat) (x y : α), xs[j]? = some x → ys[j]? = some y → ∀ w' c0 c1 c2 d0 d1 d2, Below w.heap.size w w' → p S w' [c0, c1, c2] x → p S w' [d0, d1, d2] y → Calls Tryz.prog 43 #[.agg #[c0, c1, c2], .agg #[d0, d1, d2]] w' fun en w2 => en = .returned (.bool (eq x y)) ∧ Below w'.heap.size w' w2) :
  Calls Tryz.prog 42 #[va, vb, .func (.func 43) #[] #[]] w fun en w' => en = .returned (.bool (eqL eq xs ys)) ∧ Below w.heap.size w w' := by
 obtain ⟨a1, p1, e1⟩ := ha.sl
 obtain ⟨a2, p2, e2⟩ := hb.sl
 have hm1 : xs.length ≤ p1 ∧ p1 ≤ maxLen := by
  obtain ⟨_, _, _, e, h1, h2, _⟩ := ha
  rw [e] at e1
  cases e1
  exact ⟨h1, h2⟩
 have hm2 : ys.length ≤ p2 ∧ p2 ≤ maxLen := by
  obtain ⟨_, _, _, e, h1, h2, _⟩ := hb
  rw [e] at e2
  cases e2
  exact ⟨h1, h2⟩
 unfold maxLen at hm1 hm2
 obtain ⟨n1, hn1⟩ : ∃ n, xs.length = n := ⟨_, rfl⟩
 obtain ⟨n2, hn2⟩ : ∃ n, ys.length = n := ⟨_, rfl⟩
 rw [hn1] at e1 hm1
 rw [hn2] at e2 hm2
 obtain ⟨hc1, hc2⟩ := hm1
 obtain ⟨hc3, hc4⟩ := hm2
 have HA := hide (Ya ha (Ya hb (Ya hf (Ya hn1 hn2))))
 have HV := hide (Ya e1 e2)
 rw [e1, e2]
 clear ha hb hf e1 e2 hn1 hn2
 by_cases hlen : n1 = n2
 ·
  subst hlen
  go_enter Tryz.func42, Tryz.ntmps42
  go_wp2_with fail
  go_loopw [17] (fun i wr => ∃ j : Nat, i = .int .i64 (j : Int) ∧ j ≤ n1 ∧ Hid (Below w.heap.size w wr ∧ ∀ q x y, q < j → xs[q]? = some x → ys[q]? = some y → eq x y = true)) (fun i _ => n1 - (intOf i).toNat)
  case atStart => exact ⟨0, rfl, Nat.zero_le _, hide ⟨Below.refl _ _, fun q _ _ hq => absurd hq (Nat.not_lt_zero _)⟩⟩
  obtain ⟨j, rfl, hj, HB⟩ := hrel
  by_cases hlt : j < n1
  ·
   obtain ⟨ha, hb, hf, hn1, hn2⟩ := Qa HA
   obtain ⟨bw, hall⟩ := Qa HB
   obtain ⟨x, hx⟩ : ∃ x, xs[j]? = some x := ⟨xs[j]'(by omega), List.getElem?_eq_getElem _⟩
   obtain ⟨y, hy⟩ : ∃ y, ys[j]? = some y := ⟨ys[j]'(by omega), List.getElem?_eq_getElem _⟩
   obtain ⟨b1, q1, cs1, ev1, hb1, _, hl1, hp1, hc1'⟩ := (ha.later hp bw).elem hx
   obtain ⟨b2, q2, cs2, ev2, hb2, _, hl2, hp2, hc2'⟩ := (hb.later hp bw).elem hy
   obtain ⟨c0, c1, c2, rfl⟩ := Jcq hl1
   obtain ⟨d0, d1, d2, rfl⟩ := Jcq hl2
   rw [(Qa HV).1, hn1] at ev1
   rw [(Qa HV).2, hn2] at ev2
   simp only [Value.slice.injEq] at ev1 ev2
   obtain ⟨rfl, -, -⟩ := ev1
   obtain ⟨rfl, -, -⟩ := ev2
   have h1 := hone _ _ _ _ hp1
   have h2 := hone _ _ _ _ hp2
   obtain ⟨W1, hW1⟩ : ∃ W1, W1 = wr.alloc (.cells #[c0, c1, c2] 77) := ⟨_, rfl⟩
   obtain ⟨W2, hW2⟩ : ∃ W2, W2 = W1.alloc (.cells #[d0, d1, d2] 77) := ⟨_, rfl⟩
   have s1 : W1.heap.size = wr.heap.size + 1 := by rw [hW1]; simp
   have B1 : Below wr.heap.size wr W1 := bnw hW1
   have B2 : Below wr.heap.size wr W2 := by rw [hW2]; exact B1.alloc B1.size _
   have m1 : W1.heap[wr.heap.size]? = some (.cells #[c0, c1, c2] 77 (0, 0)) := nnw hW1
   have m2 : W2.heap[W1.heap.size]? = some (.cells #[d0, d1, d2] 77 (0, 0)) := nnw hW2
   have m3 : W2.heap[wr.heap.size]? = some (.cells #[c0, c1, c2] 77 (0, 0)) := by rw [hW2, Below.heap_alloc _ _ _ (by omega)]; exact m1
   have L1 := Qlv (w := wr) (b := b1) (o := j * 3) hc1'
   have N1 := Jdb wr h1
   have L2 := Qlv (w := W1) (b := b2) (o := j * 3) (fun q c hq => by rw [B1.cell (p := ⟨b2, _, none⟩) hb2]; exact hc2' q c hq)
   have N2 := Jdb W1 h2
   have L3 := Qlv (w := W2) (b := wr.heap.size) (o := 0) (fun q c hq => by rw [Qab m3, Nat.zero_add]; simpa using hq)
   have L4 := Qlv (w := W2) (b := W1.heap.size) (o := 0) (fun q c hq => by rw [Qab m2, Nat.zero_add]; simpa using hq)
   have hcl := hf j x y hx hy W2 c0 c1 c2 d0 d1 d2 (bw.trans (B2.mono bw.size)) (hp.same _ _ _ _ _ hp1 B2.size (fun b _ hl => B2.block b hl)) (hp.same _ _ _ _ _ hp2 B2.size (fun b _ hl => B2.block b hl))
   rw [← hW1] at N1
   rw [← hW2] at N2
   obtain ⟨r, hr⟩ : ∃ r, r = eq x y := ⟨_, rfl⟩
   rw [← hr] at hcl
   have HF := hide (Ya hx (Ya hy (Ya hall (Ya (bw.trans (B2.mono bw.size)) hr))))
   clear ha hb hf bw hall hx hy hc1' hc2' hp1 hp2 hl1 hl2 h1 h2 hW1 hW2 s1 B1 B2 m1 m2 m3 hn1 hn2 HA HV hb1 hb2 hr HB
   cases r
   ·
    go_wp2_with fail
    refine hcl.mono ?_
    clear hcl
    rintro en w4 ⟨rfl, b4⟩
    have B4 := hide b4
    clear b4 L1 N1 L2 N2 L3 L4
    go_wp2_with fail
    go_ret
    obtain ⟨hx, hy, hall, bw, hr⟩ := Qa HF
    exact ⟨by rw [Qai hx hy hr.symm]; rfl, bw.trans ((Qa B4).mono bw.size)⟩
   go_wp2_with fail
   refine hcl.mono ?_
   clear hcl
   rintro en w4 ⟨rfl, b4⟩
   have B4 := hide b4
   clear b4 L1 N1 L2 N2 L3 L4
   go_wp2_with fail
   go_roundw
   case rel =>
    obtain ⟨hx, hy, hall, bw, hr⟩ := Qa HF
    refine ⟨j + 1, by go_num, by omega, hide ⟨bw.trans ((Qa B4).mono bw.size), fun q x' y' hq hx' hy' => ?_⟩⟩
    by_cases e : q = j
    ·
     subst e
     rw [hx] at hx'
     rw [hy] at hy'
     cases hx'
     cases hy'
     exact hr.symm
    · exact hall q x' y' (by omega) hx' hy'
   case measure => simp [intOf]; omega
  obtain ⟨bw, hall⟩ := Qa HB
  have HF := hide (Ya bw hall)
  clear bw hall HB
  go_wp2_with fail
  go_ret
  obtain ⟨bw, hall⟩ := Qa HF
  obtain ⟨_, _, _, hn1, hn2⟩ := Qa HA
  exact ⟨by rw [Qbd (by omega) (fun q x' y' hx' hy' => hall q x' y' (by have := (List.getElem?_eq_some_iff.1 hx').1; omega) hx' hy')]; rfl, bw⟩
 have hne : ((n1 : Int) != (n2 : Int)) = true := by simp; omega
 go_enter Tryz.func42, Tryz.ntmps42
 go_wp2_with fail
 go_ret
 obtain ⟨_, _, _, hn1, hn2⟩ := Qa HA
 exact ⟨by rw [Qbo (by omega)]; rfl, Below.refl _ _⟩
end
section
open Go.RowKit Go.Maps
def qqLoad (a : Value) : Sem Value := Instr.loadAt 64 a
theorem Qn (a : Value) : Instr.loadAt 64 a = qqLoad a := rfl
def qqStore (p v : Value) : Sem Unit := Instr.storeAt 64 p v
theorem Qty (p v : Value) : Instr.storeAt 64 p v = qqStore p v := rfl
theorem Qyx : (Tryz.prog.info? 64).map (·.size) = some 5 := by kernel_rfl
theorem Qcz {w : World} {b o : Nat} {c0 c1 c2 c3 c4 : Value} (h : ∀ q c, ([c0, c1, c2, c3, c4] : List Value)[q]? = some c → w.cell? ⟨b, o + q, none⟩ = some c) : (qqLoad (.pointer (some ⟨b, o, none⟩))).run Tryz.prog w = .ok (.agg #[c0, c1, c2, c3, c4]) w :=
 run_loadAt_mid w b o 64 [c0, c1, c2, c3, c4] _ (fun q v hq => h q v hq) Tryz.underlying64 rfl Qyx
theorem Jdf (w : World) {c0 c1 c2 c3 c4 : Value} (h1 : ∀ c ∈ ([c0, c1, c2, c3, c4] : List Value), c.oneCell' = true) : (qqStore (.pointer (some ⟨w.heap.size, 0, none⟩)) (.agg #[c0, c1, c2, c3, c4])).run Tryz.prog (w.alloc (.cells #[.string ⟨#[]⟩, .slice none 0 0, .int .i64 0, .slice none 0 0, .int .i64 0] 64)) = .ok () (w.alloc (.cells #[c0, c1, c2, c3, c4] 64)) :=
 run_storeAt_new w 64 _ _ Qyx rfl (by simpa using h1)
theorem Qrc {cs : List Value} (h : cs.length = 5) : ∃ c0 c1 c2 c3 c4, cs = [c0, c1, c2, c3, c4] := by
 match cs, h with
 | [c0, c1, c2, c3, c4], _ => exact ⟨c0, c1, c2, c3, c4, rfl⟩
attribute [local go_sem ↓] Qn Qty
theorem eqf_q {α : Type} {p : PS α} (hp : PSok p) (hone : ∀ S w cs x, p S w cs x → ∀ c ∈ cs, c.oneCell' = true) {S : Nat → Prop} {w : World} {va vb : Value} {xs ys : List α} (eq : α → α → Bool) (ha : LsAt p 5 S w va xs) (hb : LsAt p 5 S w vb ys)
  (hf : ∀ (j : Nat) (x y : α), xs[j]? = some x → ys[j]? = some y → ∀ w' c0 c1 c2 c3 c4 d0 d1 d2 d3 d4, Below w.heap.size w w' → p S w' [c0, c1, c2, c3, c4] x → p S w' [d0, d1, d2, d3, d4] y → Calls Tryz.prog 45 #[.agg #[c0, c1, c2, c3, c4], .agg #[d0, d1, d2, d3, d4]] w' fun en w2 => en = .returned (.bool (eq x y)) ∧ Below w'.heap.size w' w2) :
  Calls Tryz.prog 44 #[va, vb, .func (.func 45) #[] #[]] w fun en w' => en = .returned (.bool (eqL eq xs ys)) ∧ Below w.heap.size w w' := by
 obtain ⟨a1, p1, e1⟩ := ha.sl
 obtain ⟨a2, p2, e2⟩ := hb.sl
 have hm1 : xs.length ≤ p1 ∧ p1 ≤ maxLen := by
  obtain ⟨_, _, _, e, h1, h2, _⟩ := ha
  rw [e] at e1
  cases e1
  exact ⟨h1, h2⟩
 have hm2 : ys.length ≤ p2 ∧ p2 ≤ maxLen := by
  obtain ⟨_, _, _, e, h1, h2, _⟩ := hb
  rw [e] at e2
  cases e2
  exact ⟨h1, h2⟩
 unfold maxLen at hm1 hm2
 obtain ⟨n1, hn1⟩ : ∃ n, xs.length = n := ⟨_, rfl⟩
 obtain ⟨n2, hn2⟩ : ∃ n, ys.length = n := ⟨_, rfl⟩
 rw [hn1] at e1 hm1
 rw [hn2] at e2 hm2
 obtain ⟨hc1, hc2⟩ := hm1
 obtain ⟨hc3, hc4⟩ := hm2
 have HA := hide (Ya ha (Ya hb (Ya hf (Ya hn1 hn2))))
 have HV := hide (Ya e1 e2)
 rw [e1, e2]
 clear ha hb hf e1 e2 hn1 hn2
 by_cases hlen : n1 = n2
 ·
  subst hlen
  go_enter Tryz.func44, Tryz.ntmps44
  go_wp2_with fail
  go_loopw [17] (fun i wr => ∃ j : Nat, i = .int .i64 (j : Int) ∧ j ≤ n1 ∧ Hid (Below w.heap.size w wr ∧ ∀ q x y, q < j → xs[q]? = some x → ys[q]? = some y → eq x y = true)) (fun i _ => n1 - (intOf i).toNat)
  case atStart => exact ⟨0, rfl, Nat.zero_le _, hide ⟨Below.refl _ _, fun q _ _ hq => absurd hq (Nat.not_lt_zero _)⟩⟩
  obtain ⟨j, rfl, hj, HB⟩ := hrel
  by_cases hlt : j < n1
  ·
   obtain ⟨ha, hb, hf, hn1, hn2⟩ := Qa HA
   obtain ⟨bw, hall⟩ := Qa HB
   obtain ⟨x, hx⟩ : ∃ x, xs[j]? = some x := ⟨xs[j]'(by omega), List.getElem?_eq_getElem _⟩
   obtain ⟨y, hy⟩ : ∃ y, ys[j]? = some y := ⟨ys[j]'(by omega), List.getElem?_eq_getElem _⟩
   obtain ⟨b1, q1, cs1, ev1, hb1, _, hl1, hp1, hc1'⟩ := (ha.later hp bw).elem hx
   obtain ⟨b2, q2, cs2, ev2, hb2, _, hl2, hp2, hc2'⟩ := (hb.later hp bw).elem hy
   obtain ⟨c0, c1, c2, c3, c4, rfl⟩ := Qrc hl1
   obtain ⟨d0, d1, d2, d3, d4, rfl⟩ := Qrc hl2
   rw [(Qa HV).1, hn1] at ev1
   rw [(Qa HV).2, hn2] at ev2
   simp only [Value.slice.injEq] at ev1 ev2
   obtain ⟨rfl, -, -⟩ := ev1
   obtain ⟨rfl, -, -⟩ := ev2
   have h1 := hone _ _ _ _ hp1
   have h2 := hone _ _ _ _ hp2
   obtain ⟨W1, hW1⟩ : ∃ W1, W1 = wr.alloc (.cells #[c0, c1, c2, c3, c4] 64) := ⟨_, rfl⟩
   obtain ⟨W2, hW2⟩ : ∃ W2, W2 = W1.alloc (.cells #[d0, d1, d2, d3, d4] 64) := ⟨_, rfl⟩
   have s1 : W1.heap.size = wr.heap.size + 1 := by rw [hW1]; simp
   have B1 : Below wr.heap.size wr W1 := bnw hW1
   have B2 : Below wr.heap.size wr W2 := by rw [hW2]; exact B1.alloc B1.size _
   have m1 : W1.heap[wr.heap.size]? = some (.cells #[c0, c1, c2, c3, c4] 64 (0, 0)) := nnw hW1
   have m2 : W2.heap[W1.heap.size]? = some (.cells #[d0, d1, d2, d3, d4] 64 (0, 0)) := nnw hW2
   have m3 : W2.heap[wr.heap.size]? = some (.cells #[c0, c1, c2, c3, c4] 64 (0, 0)) := by rw [hW2, Below.heap_alloc _ _ _ (by omega)]; exact m1
   have L1 := Qcz (w := wr) (b := b1) (o := j * 5) hc1'
   have N1 := Jdf wr h1
   have L2 := Qcz (w := W1) (b := b2) (o := j * 5) (fun q c hq => by rw [B1.cell (p := ⟨b2, _, none⟩) hb2]; exact hc2' q c hq)
   have N2 := Jdf W1 h2
   have L3 := Qcz (w := W2) (b := wr.heap.size) (o := 0) (fun q c hq => by rw [Qab m3, Nat.zero_add]; simpa using hq)
   have L4 := Qcz (w := W2) (b := W1.heap.size) (o := 0) (fun q c hq => by rw [Qab m2, Nat.zero_add]; simpa using hq)
   have hcl := hf j x y hx hy W2 c0 c1 c2 c3 c4 d0 d1 d2 d3 d4 (bw.trans (B2.mono bw.size)) (hp.same _ _ _ _ _ hp1 B2.size (fun b _ hl => B2.block b hl)) (hp.same _ _ _ _ _ hp2 B2.size (fun b _ hl => B2.block b hl))
   rw [← hW1] at N1
   rw [← hW2] at N2
   obtain ⟨r, hr⟩ : ∃ r, r = eq x y := ⟨_, rfl⟩
   rw [← hr] at hcl
   have HF := hide (Ya hx (Ya hy (Ya hall (Ya (bw.trans (B2.mono bw.size)) hr))))
   clear ha hb hf bw hall hx hy hc1' hc2' hp1 hp2 hl1 hl2 h1 h2 hW1 hW2 s1 B1 B2 m1 m2 m3 hn1 hn2 HA HV hb1 hb2 hr HB
   cases r
   ·
    go_wp2_with fail
    refine hcl.mono ?_
    clear hcl
    rintro en w4 ⟨rfl, b4⟩
    have B4 := hide b4
    clear b4 L1 N1 L2 N2 L3 L4
    go_wp2_with fail
    go_ret
    obtain ⟨hx, hy, hall, bw, hr⟩ := Qa HF
    exact ⟨by rw [Qai hx hy hr.symm]; rfl, bw.trans ((Qa B4).mono bw.size)⟩
   go_wp2_with fail
   refine hcl.mono ?_
   clear hcl
   rintro en w4 ⟨rfl, b4⟩
   have B4 := hide b4
   clear b4 L1 N1 L2 N2 L3 L4
   go_wp2_with fail
   go_roundw
   case rel =>
    obtain ⟨hx, hy, hall, bw, hr⟩ := Qa HF
    refine ⟨j + 1, by go_num, by omega, hide ⟨bw.trans ((Qa B4).mono bw.size), fun q x' y' hq hx' hy' => ?_⟩⟩
    by_cases e : q = j
    ·
     subst e
     rw [hx] at hx'
     rw [hy] at hy'
     cases hx'
     cases hy'
     exact hr.symm
    · exact hall q x' y' (by omega) hx' hy'
   case measure => simp [intOf]; omega
  obtain ⟨bw, hall⟩ := Qa HB
  have HF := hide (Ya bw hall)
  clear bw hall HB
  go_wp2_with fail
  go_ret
  obtain ⟨bw, hall⟩ := Qa HF
  obtain ⟨_, _, _, hn1, hn2⟩ := Qa HA
  exact ⟨by rw [Qbd (by omega) (fun q x' y' hx' hy' => hall q x' y' (by have := (List.getElem?_eq_some_iff.1 hx').1; omega) hx' hy')]; rfl, bw⟩
 have hne : ((n1 : Int) != (n2 : Int)) = true := by simp; omega
 go_enter Tryz.func44, Tryz.ntmps44
 go_wp2_with fail
 go_ret
 obtain ⟨_, _, _, hn1, hn2⟩ := Qa HA
 exact ⟨by rw [Qbo (by omega)]; rfl, Below.refl _ _⟩
end
section
open Go.RowKit Go.Maps
theorem Qnr {w : World} {xk xm xat : Int} {xt : Txt} {xa : Option Addr} {xn xc : Nat} {yk ym yat : Int} {yt : Txt} {ya : Option Addr} {yn yc : Nat} {s0 s1 s2 s3 : Bool} (h0 : s0 = decide (xk = yk)) (h1 : s1 = decide (xm = ym)) (h2 : s2 = decide (xt = yt)) (h3 : ∀ w', Below w.heap.size w w' → Calls Tryz.prog 102 #[.slice xa xn xc, .slice ya yn yc, .func (.func 103) #[] #[]] w' fun en w2 => en = .returned (.bool s3) ∧ Below w'.heap.size w' w2) :
  Calls Tryz.prog 103 #[.agg #[.int .i64 xk, .int .i64 xm, str xt, .slice xa xn xc, .int .i64 xat], .agg #[.int .i64 yk, .int .i64 ym, str yt, .slice ya yn yc, .int .i64 yat]] w fun en w' => en = .returned (.bool (s0 && s1 && s2 && s3)) ∧ Below w.heap.size w w' := by
 have B0 : Hid (Below w.heap.size w ((w.alloc (.cells #[.int .i64 xk, .int .i64 xm, str xt, .slice xa xn xc, .int .i64 xat] 67)).alloc (.cells #[.int .i64 yk, .int .i64 ym, str yt, .slice ya yn yc, .int .i64 yat] 67)) ∧ ((w.alloc (.cells #[.int .i64 xk, .int .i64 xm, str xt, .slice xa xn xc, .int .i64 xat] 67)).alloc (.cells #[.int .i64 yk, .int .i64 ym, str yt, .slice ya yn yc, .int .i64 yat] 67)).heap[w.heap.size]? = some (.cells #[.int .i64 xk, .int .i64 xm, str xt, .slice xa xn xc, .int .i64 xat] 67 (0, 0)) ∧ ((w.alloc (.cells #[.int .i64 xk, .int .i64 xm, str xt, .slice xa xn xc, .int .i64 xat] 67)).alloc (.cells #[.int .i64 yk, .int .i64 ym, str yt, .slice ya yn yc, .int .i64 yat] 67)).heap[w.heap.size + 1]? = some (.cells #[.int .i64 yk, .int .i64 ym, str yt, .slice ya yn yc, .int .i64 yat] 67 (0, 0))) := by
  refine ⟨((Below.refl _ w).alloc (Nat.le_refl _) _).alloc (by simp) _, ?_, ?_⟩
  · rw [Below.heap_alloc _ _ _ (by simp)]; exact heap_alloc_new w _
  have := heap_alloc_new (w.alloc (.cells #[.int .i64 xk, .int .i64 xm, str xt, .slice xa xn xc, .int .i64 xat] 67)) (.cells #[.int .i64 yk, .int .i64 ym, str yt, .slice ya yn yc, .int .i64 yat] 67)
  rw [show (w.alloc (.cells #[.int .i64 xk, .int .i64 xm, str xt, .slice xa xn xc, .int .i64 xat] 67)).heap.size = w.heap.size + 1 by simp] at this
  exact this
 have H0 := hide h0
 have H1 := hide h1
 have H2 := hide h2
 have H3 := hide h3
 clear h0 h1 h2 h3
 cases s0
 ·
  have g0 : (xk == yk) = false := by simpa using Qa H0
  go_enter Tryz.func103, Tryz.ntmps103
  go_wp2_with fail
  go_ret
  exact ⟨rfl, (Qa B0).1⟩
 have g0 : (xk == yk) = true := by simpa using Qa H0
 cases s1
 ·
  have g1 : (xm == ym) = false := by simpa using Qa H1
  go_enter Tryz.func103, Tryz.ntmps103
  go_wp2_with fail
  go_ret
  exact ⟨rfl, (Qa B0).1⟩
 have g1 : (xm == ym) = true := by simpa using Qa H1
 cases s2
 ·
  have g2 : (xt == yt) = false := by simpa using Qa H2
  go_enter Tryz.func103, Tryz.ntmps103
  go_wp2_with fail
  go_ret
  exact ⟨rfl, (Qa B0).1⟩
 have g2 : (xt == yt) = true := by simpa using Qa H2
 go_enter Tryz.func103, Tryz.ntmps103
 have hcl := Qa H3 _ (Qa B0).1
 go_wp2_with fail
 refine hcl.mono ?_
 clear hcl
 rintro en w3 ⟨rfl, b3⟩
 obtain ⟨bb, na, nb⟩ := Qa B0
 have na3 := (b3.block _ (Qag na)).trans na
 have nb3 := (b3.block _ (Qag nb)).trans nb
 have BB3 := hide (Ya (bb.trans (b3.mono bb.size)) (Ya na3 nb3))
 obtain ⟨x_0, x_1, x_2, x_3, x_4, xf⟩ := cl5 na3
 obtain ⟨y_0, y_1, y_2, y_3, y_4, yf⟩ := cl5 nb3
 clear bb na nb b3 na3 nb3
 cases s3
 ·
  go_wp2_with fail
  go_ret
  exact ⟨rfl, (Qa BB3).1⟩
 go_wp2_with fail
 go_ret
 exact ⟨rfl, (Qa BB3).1⟩
end
section
open Go.RowKit Go.Maps
theorem Qnn {w : World} {xat : Int} {xt : Txt} {xa : Option Addr} {xn xc : Nat} {yat : Int} {yt : Txt} {ya : Option Addr} {yn yc : Nat} {s0 s1 : Bool} (h0 : s0 = decide (xt = yt)) (h1 : ∀ w', Below w.heap.size w w' → Calls Tryz.prog 102 #[.slice xa xn xc, .slice ya yn yc, .func (.func 103) #[] #[]] w' fun en w2 => en = .returned (.bool s1) ∧ Below w'.heap.size w' w2) :
  Calls Tryz.prog 76 #[.agg #[str xt, .slice xa xn xc, .int .i64 xat], .agg #[str yt, .slice ya yn yc, .int .i64 yat]] w fun en w' => en = .returned (.bool (s0 && s1)) ∧ Below w.heap.size w w' := by
 have B0 : Hid (Below w.heap.size w ((w.alloc (.cells #[str xt, .slice xa xn xc, .int .i64 xat] 61)).alloc (.cells #[str yt, .slice ya yn yc, .int .i64 yat] 61)) ∧ ((w.alloc (.cells #[str xt, .slice xa xn xc, .int .i64 xat] 61)).alloc (.cells #[str yt, .slice ya yn yc, .int .i64 yat] 61)).heap[w.heap.size]? = some (.cells #[str xt, .slice xa xn xc, .int .i64 xat] 61 (0, 0)) ∧ ((w.alloc (.cells #[str xt, .slice xa xn xc, .int .i64 xat] 61)).alloc (.cells #[str yt, .slice ya yn yc, .int .i64 yat] 61)).heap[w.heap.size + 1]? = some (.cells #[str yt, .slice ya yn yc, .int .i64 yat] 61 (0, 0))) := by
  refine ⟨((Below.refl _ w).alloc (Nat.le_refl _) _).alloc (by simp) _, ?_, ?_⟩
  · rw [Below.heap_alloc _ _ _ (by simp)]; exact heap_alloc_new w _
  have := heap_alloc_new (w.alloc (.cells #[str xt, .slice xa xn xc, .int .i64 xat] 61)) (.cells #[str yt, .slice ya yn yc, .int .i64 yat] 61)
  rw [show (w.alloc (.cells #[str xt, .slice xa xn xc, .int .i64 xat] 61)).heap.size = w.heap.size + 1 by simp] at this
  exact this
 have H0 := hide h0
 have H1 := hide h1
 clear h0 h1
 cases s0
 ·
  have g0 : (xt == yt) = false := by simpa using Qa H0
  go_enter Tryz.func76, Tryz.ntmps76
  go_wp2_with fail
  go_ret
  exact ⟨rfl, (Qa B0).1⟩
 have g0 : (xt == yt) = true := by simpa using Qa H0
 go_enter Tryz.func76, Tryz.ntmps76
 have hcl := Qa H1 _ (Qa B0).1
 go_wp2_with fail
 refine hcl.mono ?_
 clear hcl
 rintro en w1 ⟨rfl, b1⟩
 obtain ⟨bb, na, nb⟩ := Qa B0
 have na1 := (b1.block _ (Qag na)).trans na
 have nb1 := (b1.block _ (Qag nb)).trans nb
 have BB1 := hide (Ya (bb.trans (b1.mono bb.size)) (Ya na1 nb1))
 obtain ⟨x_0, x_1, x_2, xf⟩ := cl3 na1
 obtain ⟨y_0, y_1, y_2, yf⟩ := cl3 nb1
 clear bb na nb b1 na1 nb1
 cases s1
 ·
  go_wp2_with fail
  go_ret
  exact ⟨rfl, (Qa BB1).1⟩
 go_wp2_with fail
 go_ret
 exact ⟨rfl, (Qa BB1).1⟩
end
section
open Go.RowKit Go.Maps
theorem Qpi {w : World} {xk xat xk1 xm1 xat1 xk2 xm2 xat2 xat3 : Int} {xt xo xt1 xt2 : Txt} {xa x1a x2a : Option Addr} {xn xc x1n x1c x2n x2c : Nat} {yk yat yk1 ym1 yat1 yk2 ym2 yat2 yat3 : Int} {yt yo yt1 yt2 : Txt} {ya y1a y2a : Option Addr} {yn yc y1n y1c y2n y2c : Nat} {s0 s1 s2 s3 s4 : Bool} (h0 : s0 = decide (xk = yk)) (h1 : ∀ w', Below w.heap.size w w' → Calls Tryz.prog 76 #[.agg #[str xt, .slice xa xn xc, .int .i64 xat], .agg #[str yt, .slice ya yn yc, .int .i64 yat]] w' fun en w2 => en = .returned (.bool s1) ∧ Below w'.heap.size w' w2) (h2 : s2 = decide (xo = yo)) (h3 : ∀ w', Below w.heap.size w w' → Calls Tryz.prog 103 #[.agg #[.int .i64 xk1, .int .i64 xm1, str xt1, .slice x1a x1n x1c, .int .i64 xat1], .agg #[.int .i64 yk1, .int .i64 ym1, str yt1, .slice y1a y1n y1c, .int .i64 yat1]] w' fun en w2 => en = .returned (.bool s3) ∧ Below w'.heap.size w' w2) (h4 : ∀ w', Below w.heap.size w w' → Calls Tryz.prog 103 #[.agg #[.int .i64 xk2, .int .i64 xm2, str xt2, .slice x2a x2n x2c, .int .i64 xat2], .agg #[.int .i64 yk2, .int .i64 ym2, str yt2, .slice y2a y2n y2c, .int .i64 yat2]] w' fun en w2 => en = .returned (.bool s4) ∧ Below w'.heap.size w' w2) :
  Calls Tryz.prog 78 #[.agg #[.int .i64 xk, str xt, .slice xa xn xc, .int .i64 xat, str xo, .int .i64 xk1, .int .i64 xm1, str xt1, .slice x1a x1n x1c, .int .i64 xat1, .int .i64 xk2, .int .i64 xm2, str xt2, .slice x2a x2n x2c, .int .i64 xat2, .int .i64 xat3], .agg #[.int .i64 yk, str yt, .slice ya yn yc, .int .i64 yat, str yo, .int .i64 yk1, .int .i64 ym1, str yt1, .slice y1a y1n y1c, .int .i64 yat1, .int .i64 yk2, .int .i64 ym2, str yt2, .slice y2a y2n y2c, .int .i64 yat2, .int .i64 yat3]] w fun en w' => en = .returned (.bool (s0 && s1 && s2 && s3 && s4)) ∧ Below w.heap.size w w' := by
 have B0 : Hid (Below w.heap.size w ((w.alloc (.cells #[.int .i64 xk, str xt, .slice xa xn xc, .int .i64 xat, str xo, .int .i64 xk1, .int .i64 xm1, str xt1, .slice x1a x1n x1c, .int .i64 xat1, .int .i64 xk2, .int .i64 xm2, str xt2, .slice x2a x2n x2c, .int .i64 xat2, .int .i64 xat3] 69)).alloc (.cells #[.int .i64 yk, str yt, .slice ya yn yc, .int .i64 yat, str yo, .int .i64 yk1, .int .i64 ym1, str yt1, .slice y1a y1n y1c, .int .i64 yat1, .int .i64 yk2, .int .i64 ym2, str yt2, .slice y2a y2n y2c, .int .i64 yat2, .int .i64 yat3] 69)) ∧ ((w.alloc (.cells #[.int .i64 xk, str xt, .slice xa xn xc, .int .i64 xat, str xo, .int .i64 xk1, .int .i64 xm1, str xt1, .slice x1a x1n x1c, .int .i64 xat1, .int .i64 xk2, .int .i64 xm2, str xt2, .slice x2a x2n x2c, .int .i64 xat2, .int .i64 xat3] 69)).alloc (.cells #[.int .i64 yk, str yt, .slice ya yn yc, .int .i64 yat, str yo, .int .i64 yk1, .int .i64 ym1, str yt1, .slice y1a y1n y1c, .int .i64 yat1, .int .i64 yk2, .int .i64 ym2, str yt2, .slice y2a y2n y2c, .int .i64 yat2, .int .i64 yat3] 69)).heap[w.heap.size]? = some (.cells #[.int .i64 xk, str xt, .slice xa xn xc, .int .i64 xat, str xo, .int .i64 xk1, .int .i64 xm1, str xt1, .slice x1a x1n x1c, .int .i64 xat1, .int .i64 xk2, .int .i64 xm2, str xt2, .slice x2a x2n x2c, .int .i64 xat2, .int .i64 xat3] 69 (0, 0)) ∧ ((w.alloc (.cells #[.int .i64 xk, str xt, .slice xa xn xc, .int .i64 xat, str xo, .int .i64 xk1, .int .i64 xm1, str xt1, .slice x1a x1n x1c, .int .i64 xat1, .int .i64 xk2, .int .i64 xm2, str xt2, .slice x2a x2n x2c, .int .i64 xat2, .int .i64 xat3] 69)).alloc (.cells #[.int .i64 yk, str yt, .slice ya yn yc, .int .i64 yat, str yo, .int .i64 yk1, .int .i64 ym1, str yt1, .slice y1a y1n y1c, .int .i64 yat1, .int .i64 yk2, .int .i64 ym2, str yt2, .slice y2a y2n y2c, .int .i64 yat2, .int .i64 yat3] 69)).heap[w.heap.size + 1]? = some (.cells #[.int .i64 yk, str yt, .slice ya yn yc, .int .i64 yat, str yo, .int .i64 yk1, .int .i64 ym1, str yt1, .slice y1a y1n y1c, .int .i64 yat1, .int .i64 yk2, .int .i64 ym2, str yt2, .slice y2a y2n y2c, .int .i64 yat2, .int .i64 yat3] 69 (0, 0))) := by
  refine ⟨((Below.refl _ w).alloc (Nat.le_refl _) _).alloc (by simp) _, ?_, ?_⟩
  · rw [Below.heap_alloc _ _ _ (by simp)]; exact heap_alloc_new w _
  have := heap_alloc_new (w.alloc (.cells #[.int .i64 xk, str xt, .slice xa xn xc, .int .i64 xat, str xo, .int .i64 xk1, .int .i64 xm1, str xt1, .slice x1a x1n x1c, .int .i64 xat1, .int .i64 xk2, .int .i64 xm2, str xt2, .slice x2a x2n x2c, .int .i64 xat2, .int .i64 xat3] 69)) (.cells #[.int .i64 yk, str yt, .slice ya yn yc, .int .i64 yat, str yo, .int .i64 yk1, .int .i64 ym1, str yt1, .slice y1a y1n y1c, .int .i64 yat1, .int .i64 yk2, .int .i64 ym2, str yt2, .slice y2a y2n y2c, .int .i64 yat2, .int .i64 yat3] 69)
  rw [show (w.alloc (.cells #[.int .i64 xk, str xt, .slice xa xn xc, .int .i64 xat, str xo, .int .i64 xk1, .int .i64 xm1, str xt1, .slice x1a x1n x1c, .int .i64 xat1, .int .i64 xk2, .int .i64 xm2, str xt2, .slice x2a x2n x2c, .int .i64 xat2, .int .i64 xat3] 69)).heap.size = w.heap.size + 1 by simp] at this
  exact this
 have H0 := hide h0
 have H1 := hide h1
 have H2 := hide h2
 have H3 := hide h3
 have H4 := hide h4
 clear h0 h1 h2 h3 h4
 cases s0
 ·
  have g0 : (xk == yk) = false := by simpa using Qa H0
  go_enter Tryz.func78, Tryz.ntmps78
  go_wp2_with fail
  go_ret
  exact ⟨rfl, (Qa B0).1⟩
 have g0 : (xk == yk) = true := by simpa using Qa H0
 go_enter Tryz.func78, Tryz.ntmps78
 have hcl := Qa H1 _ (Qa B0).1
 go_wp2_with fail
 refine hcl.mono ?_
 clear hcl
 rintro en w1 ⟨rfl, b1⟩
 obtain ⟨bb, na, nb⟩ := Qa B0
 have na1 := (b1.block _ (Qag na)).trans na
 have nb1 := (b1.block _ (Qag nb)).trans nb
 have BB1 := hide (Ya (bb.trans (b1.mono bb.size)) (Ya na1 nb1))
 obtain ⟨x_0, x_1, x_2, x_3, x_4, x_5, x_6, x_7, x_8, x_9, x_10, x_11, x_12, x_13, x_14, x_15, xf⟩ := cl16 na1
 obtain ⟨y_0, y_1, y_2, y_3, y_4, y_5, y_6, y_7, y_8, y_9, y_10, y_11, y_12, y_13, y_14, y_15, yf⟩ := cl16 nb1
 clear bb na nb b1 na1 nb1
 cases s1
 ·
  go_wp2_with fail
  go_ret
  exact ⟨rfl, (Qa BB1).1⟩
 cases s2
 ·
  have g2 : (xo == yo) = false := by simpa using Qa H2
  go_wp2_with fail
  go_ret
  exact ⟨rfl, (Qa BB1).1⟩
 have g2 : (xo == yo) = true := by simpa using Qa H2
 have hcl := Qa H3 _ (Qa BB1).1
 go_wp2_with fail
 refine hcl.mono ?_
 clear hcl
 rintro en w3 ⟨rfl, b3⟩
 obtain ⟨bb, na, nb⟩ := Qa BB1
 have na3 := (b3.block _ (Qag na)).trans na
 have nb3 := (b3.block _ (Qag nb)).trans nb
 have BB3 := hide (Ya (bb.trans (b3.mono bb.size)) (Ya na3 nb3))
 obtain ⟨x_0, x_1, x_2, x_3, x_4, x_5, x_6, x_7, x_8, x_9, x_10, x_11, x_12, x_13, x_14, x_15, xf⟩ := cl16 na3
 obtain ⟨y_0, y_1, y_2, y_3, y_4, y_5, y_6, y_7, y_8, y_9, y_10, y_11, y_12, y_13, y_14, y_15, yf⟩ := cl16 nb3
 clear bb na nb b3 na3 nb3
 cases s3
 ·
  go_wp2_with fail
  go_ret
  exact ⟨rfl, (Qa BB3).1⟩
 have hcl := Qa H4 _ (Qa BB3).1
 go_wp2_with fail
 refine hcl.mono ?_
 clear hcl
 rintro en w4 ⟨rfl, b4⟩
 obtain ⟨bb, na, nb⟩ := Qa BB3
 have na4 := (b4.block _ (Qag na)).trans na
 have nb4 := (b4.block _ (Qag nb)).trans nb
 have BB4 := hide (Ya (bb.trans (b4.mono bb.size)) (Ya na4 nb4))
 obtain ⟨x_0, x_1, x_2, x_3, x_4, x_5, x_6, x_7, x_8, x_9, x_10, x_11, x_12, x_13, x_14, x_15, xf⟩ := cl16 na4
 obtain ⟨y_0, y_1, y_2, y_3, y_4, y_5, y_6, y_7, y_8, y_9, y_10, y_11, y_12, y_13, y_14, y_15, yf⟩ := cl16 nb4
 clear bb na nb b4 na4 nb4
 cases s4
 ·
  go_wp2_with fail
  go_ret
  exact ⟨rfl, (Qa BB4).1⟩
 go_wp2_with fail
 go_ret
 exact ⟨rfl, (Qa BB4).1⟩
end
section
open Go.RowKit Go.Maps
theorem Qnp {w : World} {xt : Txt} {xa : Option Addr} {xn xc : Nat} {yt : Txt} {ya : Option Addr} {yn yc : Nat} {s0 s1 : Bool} (h0 : s0 = decide (xt = yt)) (h1 : ∀ w', Below w.heap.size w w' → Calls Tryz.prog 74 #[.slice xa xn xc, .slice ya yn yc] w' fun en w2 => en = .returned (.bool s1) ∧ Below w'.heap.size w' w2) :
  Calls Tryz.prog 73 #[.agg #[str xt, .slice xa xn xc], .agg #[str yt, .slice ya yn yc]] w fun en w' => en = .returned (.bool (s0 && s1)) ∧ Below w.heap.size w w' := by
 have B0 : Hid (Below w.heap.size w ((w.alloc (.cells #[str xt, .slice xa xn xc] 119)).alloc (.cells #[str yt, .slice ya yn yc] 119)) ∧ ((w.alloc (.cells #[str xt, .slice xa xn xc] 119)).alloc (.cells #[str yt, .slice ya yn yc] 119)).heap[w.heap.size]? = some (.cells #[str xt, .slice xa xn xc] 119 (0, 0)) ∧ ((w.alloc (.cells #[str xt, .slice xa xn xc] 119)).alloc (.cells #[str yt, .slice ya yn yc] 119)).heap[w.heap.size + 1]? = some (.cells #[str yt, .slice ya yn yc] 119 (0, 0))) := by
  refine ⟨((Below.refl _ w).alloc (Nat.le_refl _) _).alloc (by simp) _, ?_, ?_⟩
  · rw [Below.heap_alloc _ _ _ (by simp)]; exact heap_alloc_new w _
  have := heap_alloc_new (w.alloc (.cells #[str xt, .slice xa xn xc] 119)) (.cells #[str yt, .slice ya yn yc] 119)
  rw [show (w.alloc (.cells #[str xt, .slice xa xn xc] 119)).heap.size = w.heap.size + 1 by simp] at this
  exact this
 have H0 := hide h0
 have H1 := hide h1
 clear h0 h1
 cases s0
 ·
  have g0 : (xt == yt) = false := by simpa using Qa H0
  go_enter Tryz.func73, Tryz.ntmps73
  go_wp2_with fail
  go_ret
  exact ⟨rfl, (Qa B0).1⟩
 have g0 : (xt == yt) = true := by simpa using Qa H0
 go_enter Tryz.func73, Tryz.ntmps73
 have hcl := Qa H1 _ (Qa B0).1
 go_wp2_with fail
 refine hcl.mono ?_
 clear hcl
 rintro en w1 ⟨rfl, b1⟩
 obtain ⟨bb, na, nb⟩ := Qa B0
 have na1 := (b1.block _ (Qag na)).trans na
 have nb1 := (b1.block _ (Qag nb)).trans nb
 have BB1 := hide (Ya (bb.trans (b1.mono bb.size)) (Ya na1 nb1))
 obtain ⟨x_0, x_1, xf⟩ := cl2 na1
 obtain ⟨y_0, y_1, yf⟩ := cl2 nb1
 clear bb na nb b1 na1 nb1
 cases s1
 ·
  go_wp2_with fail
  go_ret
  exact ⟨rfl, (Qa BB1).1⟩
 go_wp2_with fail
 go_ret
 exact ⟨rfl, (Qa BB1).1⟩
end
section
open Go.RowKit Go.Maps
theorem Qnt {w : World} {xat : Int} {xt xu : Txt} {xa : Option Addr} {xn xc : Nat} {yat : Int} {yt yu : Txt} {ya : Option Addr} {yn yc : Nat} {s0 s1 s2 : Bool} (h0 : s0 = decide (xt = yt)) (h1 : s1 = decide (xu = yu)) (h2 : ∀ w', Below w.heap.size w w' → Calls Tryz.prog 72 #[.slice xa xn xc, .slice ya yn yc, .func (.func 73) #[] #[]] w' fun en w2 => en = .returned (.bool s2) ∧ Below w'.heap.size w' w2) :
  Calls Tryz.prog 37 #[.agg #[str xt, str xu, .slice xa xn xc, .int .i64 xat], .agg #[str yt, str yu, .slice ya yn yc, .int .i64 yat]] w fun en w' => en = .returned (.bool (s0 && s1 && s2)) ∧ Below w.heap.size w w' := by
 have B0 : Hid (Below w.heap.size w ((w.alloc (.cells #[str xt, str xu, .slice xa xn xc, .int .i64 xat] 94)).alloc (.cells #[str yt, str yu, .slice ya yn yc, .int .i64 yat] 94)) ∧ ((w.alloc (.cells #[str xt, str xu, .slice xa xn xc, .int .i64 xat] 94)).alloc (.cells #[str yt, str yu, .slice ya yn yc, .int .i64 yat] 94)).heap[w.heap.size]? = some (.cells #[str xt, str xu, .slice xa xn xc, .int .i64 xat] 94 (0, 0)) ∧ ((w.alloc (.cells #[str xt, str xu, .slice xa xn xc, .int .i64 xat] 94)).alloc (.cells #[str yt, str yu, .slice ya yn yc, .int .i64 yat] 94)).heap[w.heap.size + 1]? = some (.cells #[str yt, str yu, .slice ya yn yc, .int .i64 yat] 94 (0, 0))) := by
  refine ⟨((Below.refl _ w).alloc (Nat.le_refl _) _).alloc (by simp) _, ?_, ?_⟩
  · rw [Below.heap_alloc _ _ _ (by simp)]; exact heap_alloc_new w _
  have := heap_alloc_new (w.alloc (.cells #[str xt, str xu, .slice xa xn xc, .int .i64 xat] 94)) (.cells #[str yt, str yu, .slice ya yn yc, .int .i64 yat] 94)
  rw [show (w.alloc (.cells #[str xt, str xu, .slice xa xn xc, .int .i64 xat] 94)).heap.size = w.heap.size + 1 by simp] at this
  exact this
 have H0 := hide h0
 have H1 := hide h1
 have H2 := hide h2
 clear h0 h1 h2
 cases s0
 ·
  have g0 : (xt == yt) = false := by simpa using Qa H0
  go_enter Tryz.func37, Tryz.ntmps37
  go_wp2_with fail
  go_ret
  exact ⟨rfl, (Qa B0).1⟩
 have g0 : (xt == yt) = true := by simpa using Qa H0
 cases s1
 ·
  have g1 : (xu == yu) = false := by simpa using Qa H1
  go_enter Tryz.func37, Tryz.ntmps37
  go_wp2_with fail
  go_ret
  exact ⟨rfl, (Qa B0).1⟩
 have g1 : (xu == yu) = true := by simpa using Qa H1
 go_enter Tryz.func37, Tryz.ntmps37
 have hcl := Qa H2 _ (Qa B0).1
 go_wp2_with fail
 refine hcl.mono ?_
 clear hcl
 rintro en w2 ⟨rfl, b2⟩
 obtain ⟨bb, na, nb⟩ := Qa B0
 have na2 := (b2.block _ (Qag na)).trans na
 have nb2 := (b2.block _ (Qag nb)).trans nb
 have BB2 := hide (Ya (bb.trans (b2.mono bb.size)) (Ya na2 nb2))
 obtain ⟨x_0, x_1, x_2, x_3, xf⟩ := cl4 na2
 obtain ⟨y_0, y_1, y_2, y_3, yf⟩ := cl4 nb2
 clear bb na nb b2 na2 nb2
 cases s2
 ·
  go_wp2_with fail
  go_ret
  exact ⟨rfl, (Qa BB2).1⟩
 go_wp2_with fail
 go_ret
 exact ⟨rfl, (Qa BB2).1⟩
end
section
open Go.RowKit Go.Maps
theorem Qnq {w : World} {xat : Int} {xt : Txt} {xi xo : Bool} {xa : Option Addr} {xn xc : Nat} {yat : Int} {yt : Txt} {yi yo : Bool} {ya : Option Addr} {yn yc : Nat} {s0 s1 s2 s3 : Bool} (h0 : s0 = decide (xt = yt)) (h1 : ∀ w', Below w.heap.size w w' → Calls Tryz.prog 74 #[.slice xa xn xc, .slice ya yn yc] w' fun en w2 => en = .returned (.bool s1) ∧ Below w'.heap.size w' w2) (h2 : s2 = decide (xi = yi)) (h3 : s3 = decide (xo = yo)) :
  Calls Tryz.prog 39 #[.agg #[str xt, .slice xa xn xc, .bool xi, .bool xo, .int .i64 xat], .agg #[str yt, .slice ya yn yc, .bool yi, .bool yo, .int .i64 yat]] w fun en w' => en = .returned (.bool (s0 && s1 && s2 && s3)) ∧ Below w.heap.size w w' := by
 have B0 : Hid (Below w.heap.size w ((w.alloc (.cells #[str xt, .slice xa xn xc, .bool xi, .bool xo, .int .i64 xat] 99)).alloc (.cells #[str yt, .slice ya yn yc, .bool yi, .bool yo, .int .i64 yat] 99)) ∧ ((w.alloc (.cells #[str xt, .slice xa xn xc, .bool xi, .bool xo, .int .i64 xat] 99)).alloc (.cells #[str yt, .slice ya yn yc, .bool yi, .bool yo, .int .i64 yat] 99)).heap[w.heap.size]? = some (.cells #[str xt, .slice xa xn xc, .bool xi, .bool xo, .int .i64 xat] 99 (0, 0)) ∧ ((w.alloc (.cells #[str xt, .slice xa xn xc, .bool xi, .bool xo, .int .i64 xat] 99)).alloc (.cells #[str yt, .slice ya yn yc, .bool yi, .bool yo, .int .i64 yat] 99)).heap[w.heap.size + 1]? = some (.cells #[str yt, .slice ya yn yc, .bool yi, .bool yo, .int .i64 yat] 99 (0, 0))) := by
  refine ⟨((Below.refl _ w).alloc (Nat.le_refl _) _).alloc (by simp) _, ?_, ?_⟩
  · rw [Below.heap_alloc _ _ _ (by simp)]; exact heap_alloc_new w _
  have := heap_alloc_new (w.alloc (.cells #[str xt, .slice xa xn xc, .bool xi, .bool xo, .int .i64 xat] 99)) (.cells #[str yt, .slice ya yn yc, .bool yi, .bool yo, .int .i64 yat] 99)
  rw [show (w.alloc (.cells #[str xt, .slice xa xn xc, .bool xi, .bool xo, .int .i64 xat] 99)).heap.size = w.heap.size + 1 by simp] at this
  exact this
 have H0 := hide h0
 have H1 := hide h1
 have H2 := hide h2
 have H3 := hide h3
 clear h0 h1 h2 h3
 cases s0
 ·
  have g0 : (xt == yt) = false := by simpa using Qa H0
  go_enter Tryz.func39, Tryz.ntmps39
  go_wp2_with fail
  go_ret
  exact ⟨rfl, (Qa B0).1⟩
 have g0 : (xt == yt) = true := by simpa using Qa H0
 go_enter Tryz.func39, Tryz.ntmps39
 have hcl := Qa H1 _ (Qa B0).1
 go_wp2_with fail
 refine hcl.mono ?_
 clear hcl
 rintro en w1 ⟨rfl, b1⟩
 obtain ⟨bb, na, nb⟩ := Qa B0
 have na1 := (b1.block _ (Qag na)).trans na
 have nb1 := (b1.block _ (Qag nb)).trans nb
 have BB1 := hide (Ya (bb.trans (b1.mono bb.size)) (Ya na1 nb1))
 obtain ⟨x_0, x_1, x_2, x_3, x_4, xf⟩ := cl5 na1
 obtain ⟨y_0, y_1, y_2, y_3, y_4, yf⟩ := cl5 nb1
 clear bb na nb b1 na1 nb1
 cases s1
 ·
  go_wp2_with fail
  go_ret
  exact ⟨rfl, (Qa BB1).1⟩
 cases s2
 ·
  have g2 : (xi == yi) = false := by simpa using Qa H2
  go_wp2_with fail
  go_ret
  exact ⟨rfl, (Qa BB1).1⟩
 have g2 : (xi == yi) = true := by simpa using Qa H2
 cases s3
 ·
  have g3 : (xo == yo) = false := by simpa using Qa H3
  go_wp2_with fail
  go_ret
  exact ⟨rfl, (Qa BB1).1⟩
 have g3 : (xo == yo) = true := by simpa using Qa H3
 go_wp2_with fail
 go_ret
 exact ⟨rfl, (Qa BB1).1⟩
end
section
open Go.RowKit Go.Maps
theorem Qns {w : World} {xat : Int} {xt xu : Txt} {yat : Int} {yt yu : Txt} {s0 s1 : Bool} (h0 : s0 = decide (xt = yt)) (h1 : s1 = decide (xu = yu)) :
  Calls Tryz.prog 43 #[.agg #[str xt, str xu, .int .i64 xat], .agg #[str yt, str yu, .int .i64 yat]] w fun en w' => en = .returned (.bool (s0 && s1)) ∧ Below w.heap.size w w' := by
 have B0 : Hid (Below w.heap.size w ((w.alloc (.cells #[str xt, str xu, .int .i64 xat] 77)).alloc (.cells #[str yt, str yu, .int .i64 yat] 77)) ∧ ((w.alloc (.cells #[str xt, str xu, .int .i64 xat] 77)).alloc (.cells #[str yt, str yu, .int .i64 yat] 77)).heap[w.heap.size]? = some (.cells #[str xt, str xu, .int .i64 xat] 77 (0, 0)) ∧ ((w.alloc (.cells #[str xt, str xu, .int .i64 xat] 77)).alloc (.cells #[str yt, str yu, .int .i64 yat] 77)).heap[w.heap.size + 1]? = some (.cells #[str yt, str yu, .int .i64 yat] 77 (0, 0))) := by
  refine ⟨((Below.refl _ w).alloc (Nat.le_refl _) _).alloc (by simp) _, ?_, ?_⟩
  · rw [Below.heap_alloc _ _ _ (by simp)]; exact heap_alloc_new w _
  have := heap_alloc_new (w.alloc (.cells #[str xt, str xu, .int .i64 xat] 77)) (.cells #[str yt, str yu, .int .i64 yat] 77)
  rw [show (w.alloc (.cells #[str xt, str xu, .int .i64 xat] 77)).heap.size = w.heap.size + 1 by simp] at this
  exact this
 have H0 := hide h0
 have H1 := hide h1
 clear h0 h1
 cases s0
 ·
  have g0 : (xt == yt) = false := by simpa using Qa H0
  go_enter Tryz.func43, Tryz.ntmps43
  go_wp2_with fail
  go_ret
  exact ⟨rfl, (Qa B0).1⟩
 have g0 : (xt == yt) = true := by simpa using Qa H0
 cases s1
 ·
  have g1 : (xu == yu) = false := by simpa using Qa H1
  go_enter Tryz.func43, Tryz.ntmps43
  go_wp2_with fail
  go_ret
  exact ⟨rfl, (Qa B0).1⟩
 have g1 : (xu == yu) = true := by simpa using Qa H1
 go_enter Tryz.func43, Tryz.ntmps43
 go_wp2_with fail
 go_ret
 exact ⟨rfl, (Qa B0).1⟩
end
section
open Go.RowKit Go.Maps
theorem Qno {w : World} {xat : Int} {xt : Txt} {xa : Option Addr} {xn xc : Nat} {x0a : Option Addr} {x0n x0c : Nat} {x1a : Option Addr} {x1n x1c : Nat} {x2a : Option Addr} {x2n x2c : Nat} {x3a : Option Addr} {x3n x3c : Nat} {x4a : Option Addr} {x4n x4c : Nat} {yat : Int} {yt : Txt} {ya : Option Addr} {yn yc : Nat} {y0a : Option Addr} {y0n y0c : Nat} {y1a : Option Addr} {y1n y1c : Nat} {y2a : Option Addr} {y2n y2c : Nat} {y3a : Option Addr} {y3n y3c : Nat} {y4a : Option Addr} {y4n y4c : Nat} {s0 s1 s2 : Bool} (h0 : s0 = decide (xt = yt)) (h1 : ∀ w', Below w.heap.size w w' → Calls Tryz.prog 75 #[.slice xa xn xc, .slice ya yn yc] w' fun en w2 => en = .returned (.bool s1) ∧ Below w'.heap.size w' w2) (h2 : ∀ w', Below w.heap.size w w' → Calls Tryz.prog 15 #[.agg #[.slice x0a x0n x0c, .slice x1a x1n x1c, .slice x2a x2n x2c, .slice x3a x3n x3c, .slice x4a x4n x4c], .agg #[.slice y0a y0n y0c, .slice y1a y1n y1c, .slice y2a y2n y2c, .slice y3a y3n y3c, .slice y4a y4n y4c]] w' fun en w2 => en = .returned (.bool s2) ∧ Below w'.heap.size w' w2) :
  Calls Tryz.prog 41 #[.agg #[str xt, .slice xa xn xc, .slice x0a x0n x0c, .slice x1a x1n x1c, .slice x2a x2n x2c, .slice x3a x3n x3c, .slice x4a x4n x4c, .int .i64 xat], .agg #[str yt, .slice ya yn yc, .slice y0a y0n y0c, .slice y1a y1n y1c, .slice y2a y2n y2c, .slice y3a y3n y3c, .slice y4a y4n y4c, .int .i64 yat]] w fun en w' => en = .returned (.bool (s0 && s1 && s2)) ∧ Below w.heap.size w w' := by
 have B0 : Hid (Below w.heap.size w ((w.alloc (.cells #[str xt, .slice xa xn xc, .slice x0a x0n x0c, .slice x1a x1n x1c, .slice x2a x2n x2c, .slice x3a x3n x3c, .slice x4a x4n x4c, .int .i64 xat] 72)).alloc (.cells #[str yt, .slice ya yn yc, .slice y0a y0n y0c, .slice y1a y1n y1c, .slice y2a y2n y2c, .slice y3a y3n y3c, .slice y4a y4n y4c, .int .i64 yat] 72)) ∧ ((w.alloc (.cells #[str xt, .slice xa xn xc, .slice x0a x0n x0c, .slice x1a x1n x1c, .slice x2a x2n x2c, .slice x3a x3n x3c, .slice x4a x4n x4c, .int .i64 xat] 72)).alloc (.cells #[str yt, .slice ya yn yc, .slice y0a y0n y0c, .slice y1a y1n y1c, .slice y2a y2n y2c, .slice y3a y3n y3c, .slice y4a y4n y4c, .int .i64 yat] 72)).heap[w.heap.size]? = some (.cells #[str xt, .slice xa xn xc, .slice x0a x0n x0c, .slice x1a x1n x1c, .slice x2a x2n x2c, .slice x3a x3n x3c, .slice x4a x4n x4c, .int .i64 xat] 72 (0, 0)) ∧ ((w.alloc (.cells #[str xt, .slice xa xn xc, .slice x0a x0n x0c, .slice x1a x1n x1c, .slice x2a x2n x2c, .slice x3a x3n x3c, .slice x4a x4n x4c, .int .i64 xat] 72)).alloc (.cells #[str yt, .slice ya yn yc, .slice y0a y0n y0c, .slice y1a y1n y1c, .slice y2a y2n y2c, .slice y3a y3n y3c, .slice y4a y4n y4c, .int .i64 yat] 72)).heap[w.heap.size + 1]? = some (.cells #[str yt, .slice ya yn yc, .slice y0a y0n y0c, .slice y1a y1n y1c, .slice y2a y2n y2c, .slice y3a y3n y3c, .slice y4a y4n y4c, .int .i64 yat] 72 (0, 0))) := by
  refine ⟨((Below.refl _ w).alloc (Nat.le_refl _) _).alloc (by simp) _, ?_, ?_⟩
  · rw [Below.heap_alloc _ _ _ (by simp)]; exact heap_alloc_new w _
  have := heap_alloc_new (w.alloc (.cells #[str xt, .slice xa xn xc, .slice x0a x0n x0c, .slice x1a x1n x1c, .slice x2a x2n x2c, .slice x3a x3n x3c, .slice x4a x4n x4c, .int .i64 xat] 72)) (.cells #[str yt, .slice ya yn yc, .slice y0a y0n y0c, .slice y1a y1n y1c, .slice y2a y2n y2c, .slice y3a y3n y3c, .slice y4a y4n y4c, .int .i64 yat] 72)
  rw [show (w.alloc (.cells #[str xt, .slice xa xn xc, .slice x0a x0n x0c, .slice x1a x1n x1c, .slice x2a x2n x2c, .slice x3a x3n x3c, .slice x4a x4n x4c, .int .i64 xat] 72)).heap.size = w.heap.size + 1 by simp] at this
  exact this
 have H0 := hide h0
 have H1 := hide h1
 have H2 := hide h2
 clear h0 h1 h2
 cases s0
 ·
  have g0 : (xt == yt) = false := by simpa using Qa H0
  go_enter Tryz.func41, Tryz.ntmps41
  go_wp2_with fail
  go_ret
  exact ⟨rfl, (Qa B0).1⟩
 have g0 : (xt == yt) = true := by simpa using Qa H0
 go_enter Tryz.func41, Tryz.ntmps41
 have hcl := Qa H1 _ (Qa B0).1
 go_wp2_with fail
 refine hcl.mono ?_
 clear hcl
 rintro en w1 ⟨rfl, b1⟩
 obtain ⟨bb, na, nb⟩ := Qa B0
 have na1 := (b1.block _ (Qag na)).trans na
 have nb1 := (b1.block _ (Qag nb)).trans nb
 have BB1 := hide (Ya (bb.trans (b1.mono bb.size)) (Ya na1 nb1))
 obtain ⟨x_0, x_1, x_2, x_3, x_4, x_5, x_6, x_7, xf⟩ := cl8 na1
 obtain ⟨y_0, y_1, y_2, y_3, y_4, y_5, y_6, y_7, yf⟩ := cl8 nb1
 clear bb na nb b1 na1 nb1
 cases s1
 ·
  go_wp2_with fail
  go_ret
  exact ⟨rfl, (Qa BB1).1⟩
 have hcl := Qa H2 _ (Qa BB1).1
 go_wp2_with fail
 refine hcl.mono ?_
 clear hcl
 rintro en w2 ⟨rfl, b2⟩
 obtain ⟨bb, na, nb⟩ := Qa BB1
 have na2 := (b2.block _ (Qag na)).trans na
 have nb2 := (b2.block _ (Qag nb)).trans nb
 have BB2 := hide (Ya (bb.trans (b2.mono bb.size)) (Ya na2 nb2))
 obtain ⟨x_0, x_1, x_2, x_3, x_4, x_5, x_6, x_7, xf⟩ := cl8 na2
 obtain ⟨y_0, y_1, y_2, y_3, y_4, y_5, y_6, y_7, yf⟩ := cl8 nb2
 clear bb na nb b2 na2 nb2
 cases s2
 ·
  go_wp2_with fail
  go_ret
  exact ⟨rfl, (Qa BB2).1⟩
 go_wp2_with fail
 go_ret
 exact ⟨rfl, (Qa BB2).1⟩
end
end Go.Proofs.YtccehgfecaamoaaGreatDoor
