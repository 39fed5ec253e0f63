/- The document's reader: fails, enter, take, ahead. The document's reader: take. The document's reader: sign, may, must, name, word. The document's reader: may, must, name, word. The document's reader: word, ahead. -/
import Derived.Test.YtfmbpaoapjmdnaaQb08
set_option maxRecDepth 100000
set_option maxHeartbeats 32000000
namespace Go.Proofs.Ytfmbpaoapjmdnaa
section
open Go.RowKit Go.Maps
section
variable {rb g cap a d i : Nat} {l : List Tok} {w : World} {y f : Int}
theorem Rr.setF (h : Rr rb g cap l w a d i y f) {why x : Int} (hw : why ≠ 0) : Rr rb g cap l ((w.setCell ⟨rb, 4, none⟩ (.int .i64 why)).setCell ⟨rb, 5, none⟩ (.int .i64 x)) a d i why x :=
 ⟨(Qah (Qah h.box 4 _) 5 _).trans rfl, h.row.keep (by simp) (by rw [hpS h.ne, hpS h.ne]), h.ne, h.lt, h.few, h.at_, h.last, fun e => absurd e hw, h.dd, h.ii, h.tx⟩
theorem Rr.setD (h : Rr rb g cap l w a d i y f) {d' : Nat} (hd : d' ≤ 64) : Rr rb g cap l (w.setCell ⟨rb, 2, none⟩ (.int .i64 (d' : Int))) a d' i y f :=
 ⟨(Qah h.box 2 _).trans rfl, h.row.keep (by simp) (by rw [hpS h.ne]), h.ne, h.lt, h.few, h.at_, h.last, h.z, hd, h.ii, h.tx⟩
theorem Rr.setI (h : Rr rb g cap l w a d i y f) {i' : Nat} (hi : i' ≤ 65537) : Rr rb g cap l (w.setCell ⟨rb, 3, none⟩ (.int .i64 (i' : Int))) a d i' y f :=
 ⟨(Qah h.box 3 _).trans rfl, h.row.keep (by simp) (by rw [hpS h.ne]), h.ne, h.lt, h.few, h.at_, h.last, h.z, h.dd, hi, h.tx⟩
theorem Rr.setA (h : Rr rb g cap l w a d i y f) {a' : Nat} (ha : a' < l.length) : Rr rb g cap l (w.setCell ⟨rb, 1, none⟩ (.int .i64 (a' : Int))) a' d i y f :=
 ⟨(Qah h.box 1 _).trans rfl, h.row.keep (by simp) (by rw [hpS h.ne]), h.ne, ha, h.few, h.at_, h.last, h.z, h.dd, h.ii, h.tx⟩
end

def RA (rb g cap : Nat) (l : List Tok) (w : World) (d : Nat) (R : World → Value → Prop) (Y : Nat → Nat → Int → Prop) (en : Ending) (w' : World) : Prop :=
 ∃ v a' i' y' f', en = .returned v ∧ R w' v ∧ Y a' i' y' ∧ Rr rb g cap l w' a' d i' y' f' ∧ Kp rb w w'
def noV (_ : World) (v : Value) : Prop := v = .tuple #[]

theorem Qax {rb g cap a d i : Nat} {l : List Tok} {w : World} {y f : Int} (h : Rr rb g cap l w a d i y f) {why : Int} (hw : why ≠ 0) :
  Calls Try.prog 18 #[.pointer (some ⟨rb, 0, none⟩), .int .i64 why] w fun en w' => RA rb g cap l w d noV (fun a' i' y' => a' = a ∧ i' = i ∧ y' ≠ 0) en w' := by
 have hwl := Qao h
 obtain ⟨t, ht⟩ := h.tok
 have hnw := Qak h ht
 unfold tkA at hnw
 obtain ⟨x_0, x_1, x_2, x_3, x_4, x_5, xf⟩ := cl6 h.box
 have H := hide h
 have HW := hide hw
 clear h hw ht x_0 x_1 x_2 x_3 x_4 x_5 xf
 by_cases hy : y = 0
 ·
  rw [decide_eq_true hy] at hwl
  clear hy
  go_enter Try.func18, Try.ntmps18
  go_wp2_with fail
  refine hwl.mono ?_
  clear hwl
  rintro en w1 ⟨rfl, rfl⟩
  go_wp2_with fail
  refine hnw.mono ?_
  clear hnw
  rintro en w2 ⟨rfl, b2⟩
  have h2 := (Qa H).later b2
  obtain ⟨x_0, x_1, x_2, x_3, x_4, x_5, xf⟩ := cl6 h2.box
  have H2 := hide h2
  have B2 := hide b2
  clear h2 b2
  go_wp2_with fail
  rename_i hK
  refine hK _ _ ?_
  clear hK
  go_wp2_with fail
  go_end0
  exact ⟨_, _, _, _, _, rfl, rfl, ⟨rfl, rfl, Qa HW⟩, (Qa H2).setF (Qa HW), ((Kp.of_below (Qa B2)).trans (Kp.set _ _ _ _)).trans (Kp.set _ _ _ _)⟩
 rw [decide_eq_false hy] at hwl
 have HY := hide hy
 clear hy hnw
 go_enter Try.func18, Try.ntmps18
 go_wp2_with fail
 refine hwl.mono ?_
 clear hwl
 rintro en w1 ⟨rfl, rfl⟩
 go_wp2_with fail
 go_end0
 exact ⟨_, _, _, _, _, rfl, rfl, ⟨rfl, rfl, Qa HY⟩, Qa H, Kp.refl _ _⟩

theorem Qeu {rb g cap a d i : Nat} {l : List Tok} {w : World} {y f : Int} (h : Rr rb g cap l w a d i y f) (hd : d < 64) :
  Calls Try.prog 54 #[.pointer (some ⟨rb, 0, none⟩)] w fun en w' => RA rb g cap l w (d + 1) noV (fun a' i' y' => a' = a ∧ i' = i ∧ (y' = 0 → y = 0 ∧ d < 32)) en w' := by
 have hfl := Qax h (why := 4) (by decide)
 obtain ⟨x_0, x_1, x_2, x_3, x_4, x_5, xf⟩ := cl6 h.box
 have H := hide h
 clear h
 by_cases h32 : 32 ≤ d
 ·
  have g32 : (32 : Int) ≤ (d : Int) := by omega
  clear h32
  go_enter Try.func54, Try.ntmps54
  go_wp2_with fail
  refine hfl.mono ?_
  clear hfl x_0 x_1 x_2 x_3 x_4 x_5 xf
  rintro en w2 ⟨_, _, _, y', f', rfl, rfl, ⟨rfl, rfl, hy'⟩, h2, k2⟩
  obtain ⟨x_0, x_1, x_2, x_3, x_4, x_5, xf⟩ := cl6 h2.box
  have H2 := hide (Ya hy' (Ya h2 k2))
  clear hy' h2 k2
  go_wp2_with fail
  go_end0
  obtain ⟨hy', h2, k2⟩ := Qa H2
  exact ⟨_, _, _, y', f', rfl, rfl, ⟨rfl, rfl, fun e => absurd e hy'⟩, h2.setD (d' := d + 1) (by omega), k2.trans (Kp.set _ _ _ _)⟩
 have g32 : ¬ ((32 : Int) ≤ (d : Int)) := by omega
 have HD := hide (show d < 32 by omega)
 clear h32 hfl
 go_enter Try.func54, Try.ntmps54
 go_wp2_with fail
 go_end0
 exact ⟨_, _, _, y, f, rfl, rfl, ⟨rfl, rfl, fun e => ⟨e, Qa HD⟩⟩, (Qa H).setD (d' := d + 1) (by omega), Kp.set _ _ _ _⟩
end
section
open Go.RowKit Go.Maps
abbrev mLRpc0 : List (Nat × Bool) := [(0, true), (1, false), (2, true), (3, true), (4, true), (5, true), (6, true), (7, true), (8, true), (9, true), (10, true), (11, true), (12, true), (13, true), (14, true)]

theorem tk_ld {w : World} {b : Nat} {c0 c1 c2 c3 : Value} (h : w.heap[b]? = some (.cells #[c0, c1, c2, c3] 54 (0, 0))) : (tkLoad (.pointer (some ⟨b, 0, none⟩))).run Try.prog w = .ok (.agg #[c0, c1, c2, c3]) w :=
 run_loadAt_mid w b 0 54 [c0, c1, c2, c3] _ (fun q v hq => by rw [Qaf h, Nat.zero_add]; simpa using hq) Try.underlying54 rfl (by kernel_rfl)
theorem Qkr {w : World} {b : Nat} {old new : Array Value} (hb : w.heap[b]? = some (.cells old 54 (0, 0))) (h0 : old.size = 4) (hn : new.size = 4) (h1 : new.all (·.oneCell') = true) : (tkStore (.pointer (some ⟨b, 0, none⟩)) (.agg new)).run Try.prog w = .ok () (w.setRow b new) := by
 unfold tkStore
 simp only [Instr.storeAt, Instr.sureAddr, Sem.run_bind, Sem.run_pure, Result.andThen_ok]
 exact run_storeVar_row w b 54 54 old new hb (by rw [hn]; kernel_rfl) (by rw [h0, hn]) h1
theorem Qge (n : Nat) (h0 : 0 < n) (h : n ≤ 65537) : IntKind.i64.wrap ((n : Int) - 1) = (n : Int) - 1 := by
 have e1 : (2 : Int) ^ IntKind.i64.bits = 18446744073709551616 := by decide
 have e2 : (2 : Int) ^ (IntKind.i64.bits - 1) = 9223372036854775808 := by decide
 have e3 : ((n : Int) - 1) % 18446744073709551616 = (n : Int) - 1 := by omega
 unfold IntKind.wrap
 simp only [e1, e2, e3]
 rw [if_neg (by simp; intro _; omega)]
theorem Rr.move {rb g cap a d i : Nat} {l : List Tok} {w w' : World} {y f : Int} (h : Rr rb g cap l w a d i y f) (hs : w.heap.size ≤ w'.heap.size) (hr : w'.heap[rb]? = w.heap[rb]?) (hg : w'.heap[g]? = w.heap[g]?) : Rr rb g cap l w' a d i y f :=
 ⟨hr.trans h.box, h.row.keep hs hg, h.ne, h.lt, h.few, h.at_, h.last, h.z, h.dd, h.ii, h.tx⟩
def TkY (l : List Tok) (a i : Nat) (y : Int) (a' i' : Nat) (y' : Int) : Prop := i' = i ∧ y' = y ∧ ((y = 0 ∧ a + 1 < l.length ∧ a' = a + 1) ∨ (a' = a ∧ (y = 0 → ¬ a + 1 < l.length)))
attribute [local go_sem ↓] Qdo Qee
theorem Qau {rb g cap a d i : Nat} {l : List Tok} {w : World} {y f : Int} (h : Rr rb g cap l w a d i y f) {t : Tok} (ht : l[a]? = some t) :
  Calls Try.prog 55 #[.pointer (some ⟨rb, 0, none⟩)] w fun en w' => RA rb g cap l w d (fun _ v => v = tkA t) (TkY l a i y) en w' := by
 have b0 : Below w.heap.size w (w.alloc tokZ) := (Below.refl _ w).alloc (Nat.le_refl _) _
 have n0 : (w.alloc tokZ).heap[w.heap.size]? = some tokZ := heap_alloc_new w _
 have s0 : (w.alloc tokZ).heap.size = w.heap.size + 1 := by simp
 have hnw := Qak (h.later b0) ht
 unfold tkA at hnw
 have hlt := h.lt
 have hfw := h.few
 have hcl := h.row.le
 have hcm := h.row.cm
 unfold maxLen at hcm
 have hrbl := Qab h.box
 have H := hide h
 have HB0 := hide (Ya b0 (Ya n0 s0))
 clear h b0 n0 s0 ht
 go_enter Try.func55, Try.ntmps55
 go_wp2_with fail
 refine hnw.mono ?_
 clear hnw
 rintro en w2 ⟨rfl, b2⟩
 obtain ⟨b0, n0, s0⟩ := Qa HB0
 have n1 : (w2.alloc tokZ).heap[w2.heap.size]? = some tokZ := heap_alloc_new w2 _
 have R1 := Qkr (new := #[.int .i64 t.kind, str t.text, .int .i64 t.num, .int .i64 (t.at_ : Int)]) n1 rfl rfl (by simp [Value.oneCell', str])
 obtain ⟨W3, hW3⟩ : ∃ W3, W3 = (w2.alloc tokZ).setRow w2.heap.size #[.int .i64 t.kind, str t.text, .int .i64 t.num, .int .i64 (t.at_ : Int)] := ⟨_, rfl⟩
 rw [← hW3] at R1
 have hs2 := b2.size
 have b23 : Below w2.heap.size w2 W3 := by
  rw [hW3]
  have q := (Below.refl w2.heap.size w2).alloc (Nat.le_refl _) tokZ
  exact ⟨q.os, q.tape, q.output, by rw [size_setRow]; exact q.size, fun k hk => by rw [setRow_other _ _ _ _ (by omega)]; exact q.block k hk⟩
 have b3 : Below w.heap.size w W3 := (b0.trans (b2.mono (by omega))).trans (b23.mono (by omega))
 have nr : W3.heap[w2.heap.size]? = some (.cells #[.int .i64 t.kind, str t.text, .int .i64 t.num, .int .i64 (t.at_ : Int)] 54 (0, 0)) := by rw [hW3]; exact setRow_heap _ _ _ _ _ _ n1
 have nn : W3.heap[w.heap.size]? = some tokZ := ((b23.block _ (by omega)).trans (b2.block _ (by omega))).trans n0
 have h3 := (Qa H).later b3.drew
 have hwl := Qao h3
 have HGN := hide (show g ≠ w.heap.size by have := (Qa H).row.lt; omega)
 have HK3 := hide (Kp.of_below (rb := rb) b3.drew)
 have HN := hide (Ya (show w2.heap.size ≠ rb by omega) (Ya (show w.heap.size ≠ rb by omega) (Ya (show W3.drew.heap[w2.heap.size]? = some (.cells #[.int .i64 t.kind, str t.text, .int .i64 t.num, .int .i64 (t.at_ : Int)] 54 (0, 0)) from nr) (show W3.drew.heap[w.heap.size]? = some tokZ from nn))))
 obtain ⟨n, hn⟩ : ∃ n, l.length = n := ⟨_, rfl⟩
 have h3b := h3.box
 rw [hn] at h3b hlt hfw hcl
 have hz := h3.z
 by_cases hy : y = 0
 ·
  obtain rfl := hz hy
  subst hy
  rw [decide_eq_true rfl] at hwl
  have HRB := hide h3b
  have HR := hide h3
  clear h3 h3b hz b2 n1 b23 b3 nr nn hs2 b0 n0 s0 H HB0 hW3
  by_cases hm : a + 1 < n
  ·
   have HM := hide (show a + 1 < l.length by omega)
   have hwr := Qge n (by omega) (by omega)
   have hcm2 : (a : Int) < (n : Int) - 1 := by omega
   clear hn
   go_wp2_with fail
   refine Qav (md := mLRpc0) (fun w' => w'.heap[rb]? = some (.cells #[.slice (some ⟨g, 0, none⟩) n cap, .int .i64 (a : Int), .int .i64 (d : Int), .int .i64 (i : Int), .int .i64 0, .int .i64 0] 56 (0, 0))) mixedO (by kernel_rfl) rfl (by kernel_rfl) (fun PP hPP => ?_)
   refine Qac rfl (by kernel_rfl) (fun _ _ => by go_simp <;> rfl) ?_
   refine Qal rfl (Qa HRB) (fun K hK => ?_)
   go_simp
   refine hwl.mono ?_
   clear hwl
   rintro en _ ⟨rfl, rfl⟩
   show K _ _
   refine hK _ _ ?_
   clear hK K
   refine Qac rfl (by kernel_rfl) (fun _ _ => by go_simp <;> rfl) ?_
   refine Qac rfl (by kernel_rfl) (fun w' hw => by obtain ⟨x_0, x_1, x_2, x_3, x_4, x_5, xf⟩ := cl6 hw; go_simp <;> rfl) ?_
   refine Qac rfl (by kernel_rfl) (fun w' hw => by obtain ⟨x_0, x_1, x_2, x_3, x_4, x_5, xf⟩ := cl6 hw; go_simp <;> rfl) ?_
   refine Qac rfl (by kernel_rfl) (fun w' hw => by obtain ⟨x_0, x_1, x_2, x_3, x_4, x_5, xf⟩ := cl6 hw; go_simp <;> rfl) ?_
   refine Qac rfl (by kernel_rfl) (fun w' hw => by obtain ⟨x_0, x_1, x_2, x_3, x_4, x_5, xf⟩ := cl6 hw; go_simp <;> rfl) ?_
   refine Qac rfl (by kernel_rfl) (fun w' hw => by obtain ⟨x_0, x_1, x_2, x_3, x_4, x_5, xf⟩ := cl6 hw; go_simp <;> rfl) ?_
   refine Qac rfl (by kernel_rfl) (fun w' hw => by obtain ⟨x_0, x_1, x_2, x_3, x_4, x_5, xf⟩ := cl6 hw; go_simp <;> rfl) ?_
   refine Qac rfl (by kernel_rfl) (fun w' hw => by obtain ⟨x_0, x_1, x_2, x_3, x_4, x_5, xf⟩ := cl6 hw; go_simp <;> rfl) ?_
   refine Qac rfl (by kernel_rfl) (fun w' hw => by obtain ⟨x_0, x_1, x_2, x_3, x_4, x_5, xf⟩ := cl6 hw; go_simp <;> rfl) ?_
   refine Qac rfl (by kernel_rfl) (fun w' hw => by obtain ⟨x_0, x_1, x_2, x_3, x_4, x_5, xf⟩ := cl6 hw; go_simp <;> rfl) ?_
   refine Qac rfl (by kernel_rfl) (fun w' hw => by obtain ⟨x_0, x_1, x_2, x_3, x_4, x_5, xf⟩ := cl6 hw; go_simp <;> rfl) ?_
   refine Qac (v := .bool true) rfl (by kernel_rfl) (fun _ _ => by go_simp <;> rfl) ?_
   refine Qac (v := .bool true) rfl (by kernel_rfl) (fun _ _ => by go_simp <;> rfl) ?_
   refine Qaw (Qa HRB) (hPP _ _ ?_)
   clear hPP PP
   simp [Act.put, Array.setIfInBounds]
   obtain ⟨x_0, x_1, x_2, x_3, x_4, x_5, xf⟩ := cl6 (Qa HRB)
   obtain ⟨W4, hW4⟩ : ∃ W4, W4 = (W3.setCell ⟨rb, 1, none⟩ (.int .i64 ((a : Int) + 1))).drew := ⟨_, rfl⟩
   have h4 : Rr rb g cap l W4 (a + 1) d i 0 0 := by
    have := (Qa HR).setA (a' := a + 1) (Qa HM)
    rw [hW4]
    exact this
   have k4 : Kp rb w W4 := by rw [hW4]; exact (Qa HK3).trans (Kp.set _ _ _ _)
   have o4 : ∀ q, q ≠ rb → W4.heap[q]? = W3.drew.heap[q]? := fun q hq => by rw [hW4]; show (W3.setCell ⟨rb, 1, none⟩ (.int .i64 ((a : Int) + 1))).heap[q]? = W3.heap[q]?; exact hpS hq
   obtain ⟨hA, hB, hsr, hsn⟩ := Qa HN
   have m1 := (o4 _ hA).trans hsr
   have m2 := (o4 _ hB).trans hsn
   have L1 := tk_ld m1
   have S1 := Qkr (new := #[.int .i64 t.kind, str t.text, .int .i64 t.num, .int .i64 (t.at_ : Int)]) m2 rfl rfl (by simp [Value.oneCell', str])
   obtain ⟨W5, hW5⟩ : ∃ W5, W5 = W4.setRow w.heap.size #[.int .i64 t.kind, str t.text, .int .i64 t.num, .int .i64 (t.at_ : Int)] := ⟨_, rfl⟩
   rw [← hW5] at S1
   have o5 : ∀ q, q ≠ w.heap.size → W5.heap[q]? = W4.heap[q]? := fun q hq => by rw [hW5]; exact setRow_other _ _ _ _ hq
   have z5 : W5.heap[w.heap.size]? = some (.cells #[.int .i64 t.kind, str t.text, .int .i64 t.num, .int .i64 (t.at_ : Int)] 54 (0, 0)) := by rw [hW5]; exact setRow_heap _ _ _ _ _ _ m2
   have s5 : W5.heap.size = W4.heap.size := by rw [hW5, size_setRow]
   have k5 : Kp rb w W5 := ⟨by rw [hW5]; exact k4.os, by rw [hW5]; exact k4.tape, by rw [hW5]; exact k4.output, by rw [s5]; exact k4.size, fun q hq hn => (o5 q (by omega)).trans (k4.block q hq hn)⟩
   have h5 := h4.move (w' := W5) (by omega) (o5 rb hB.symm) (o5 g (Qa HGN))
   have HF := hide (Ya h5 (Ya k5 z5))
   clear m1 m2 o4 o5 hW5 s5 k5 h5 h4 k4 hA hB hsr hsn z5
   subst hW4
   go_wp2_with fail
   obtain ⟨h5, k5, z5⟩ := Qa HF
   obtain ⟨z_0, z_1, z_2, z_3, zf⟩ := cl4 z5
   refine bodyPost_ret (v := tkA t) (by simp [results, Try.results55, go_sem, z_0, z_1, z_2, z_3]) rfl ?_
   exact ⟨_, _, _, _, _, rfl, rfl, ⟨rfl, rfl, .inl ⟨rfl, Qa HM, rfl⟩⟩, h5, k5⟩
  have HM := hide (show ¬ a + 1 < l.length by omega)
  have hwr := Qge n (by omega) (by omega)
  have hcm2 : ¬ ((a : Int) < (n : Int) - 1) := by omega
  clear hn
  go_wp2_with fail
  refine Qav (md := mLRpc0) (fun w' => w'.heap[rb]? = some (.cells #[.slice (some ⟨g, 0, none⟩) n cap, .int .i64 (a : Int), .int .i64 (d : Int), .int .i64 (i : Int), .int .i64 0, .int .i64 0] 56 (0, 0))) mixedO (by kernel_rfl) rfl (by kernel_rfl) (fun PP hPP => ?_)
  refine Qac rfl (by kernel_rfl) (fun _ _ => by go_simp <;> rfl) ?_
  refine Qal rfl (Qa HRB) (fun K hK => ?_)
  go_simp
  refine hwl.mono ?_
  clear hwl
  rintro en _ ⟨rfl, rfl⟩
  show K _ _
  refine hK _ _ ?_
  clear hK K
  refine Qac rfl (by kernel_rfl) (fun _ _ => by go_simp <;> rfl) ?_
  refine Qac rfl (by kernel_rfl) (fun w' hw => by obtain ⟨x_0, x_1, x_2, x_3, x_4, x_5, xf⟩ := cl6 hw; go_simp <;> rfl) ?_
  refine Qac rfl (by kernel_rfl) (fun w' hw => by obtain ⟨x_0, x_1, x_2, x_3, x_4, x_5, xf⟩ := cl6 hw; go_simp <;> rfl) ?_
  refine Qac rfl (by kernel_rfl) (fun w' hw => by obtain ⟨x_0, x_1, x_2, x_3, x_4, x_5, xf⟩ := cl6 hw; go_simp <;> rfl) ?_
  refine Qac rfl (by kernel_rfl) (fun w' hw => by obtain ⟨x_0, x_1, x_2, x_3, x_4, x_5, xf⟩ := cl6 hw; go_simp <;> rfl) ?_
  refine Qac rfl (by kernel_rfl) (fun w' hw => by obtain ⟨x_0, x_1, x_2, x_3, x_4, x_5, xf⟩ := cl6 hw; go_simp <;> rfl) ?_
  refine Qac rfl (by kernel_rfl) (fun w' hw => by obtain ⟨x_0, x_1, x_2, x_3, x_4, x_5, xf⟩ := cl6 hw; go_simp <;> rfl) ?_
  refine Qac rfl (by kernel_rfl) (fun w' hw => by obtain ⟨x_0, x_1, x_2, x_3, x_4, x_5, xf⟩ := cl6 hw; go_simp <;> rfl) ?_
  refine Qac rfl (by kernel_rfl) (fun w' hw => by obtain ⟨x_0, x_1, x_2, x_3, x_4, x_5, xf⟩ := cl6 hw; go_simp <;> rfl) ?_
  refine Qac rfl (by kernel_rfl) (fun w' hw => by obtain ⟨x_0, x_1, x_2, x_3, x_4, x_5, xf⟩ := cl6 hw; go_simp <;> rfl) ?_
  refine Qac rfl (by kernel_rfl) (fun w' hw => by obtain ⟨x_0, x_1, x_2, x_3, x_4, x_5, xf⟩ := cl6 hw; go_simp <;> rfl) ?_
  refine Qac (v := .bool false) rfl (by kernel_rfl) (fun _ _ => by go_simp <;> rfl) ?_
  refine Qac (v := .bool false) rfl (by kernel_rfl) (fun _ _ => by go_simp <;> rfl) ?_
  refine Qaw (Qa HRB) (hPP _ _ ?_)
  clear hPP PP
  simp [Act.put, Array.setIfInBounds]
  obtain ⟨W4, hW4⟩ : ∃ W4, W4 = W3.drew := ⟨_, rfl⟩
  have h4 := Qa HR
  rw [← hW4] at h4
  have k4 := Qa HK3
  rw [← hW4] at k4
  have o4 : ∀ q, q ≠ rb → W4.heap[q]? = W3.drew.heap[q]? := fun q hq => by rw [hW4]
  rw [← hW4]
  clear hW4
  obtain ⟨hA, hB, hsr, hsn⟩ := Qa HN
  have m1 := (o4 _ hA).trans hsr
  have m2 := (o4 _ hB).trans hsn
  have L1 := tk_ld m1
  have S1 := Qkr (new := #[.int .i64 t.kind, str t.text, .int .i64 t.num, .int .i64 (t.at_ : Int)]) m2 rfl rfl (by simp [Value.oneCell', str])
  obtain ⟨W5, hW5⟩ : ∃ W5, W5 = W4.setRow w.heap.size #[.int .i64 t.kind, str t.text, .int .i64 t.num, .int .i64 (t.at_ : Int)] := ⟨_, rfl⟩
  rw [← hW5] at S1
  have o5 : ∀ q, q ≠ w.heap.size → W5.heap[q]? = W4.heap[q]? := fun q hq => by rw [hW5]; exact setRow_other _ _ _ _ hq
  have z5 : W5.heap[w.heap.size]? = some (.cells #[.int .i64 t.kind, str t.text, .int .i64 t.num, .int .i64 (t.at_ : Int)] 54 (0, 0)) := by rw [hW5]; exact setRow_heap _ _ _ _ _ _ m2
  have s5 : W5.heap.size = W4.heap.size := by rw [hW5, size_setRow]
  have k5 : Kp rb w W5 := ⟨by rw [hW5]; exact k4.os, by rw [hW5]; exact k4.tape, by rw [hW5]; exact k4.output, by rw [s5]; exact k4.size, fun q hq hn => (o5 q (by omega)).trans (k4.block q hq hn)⟩
  have h5 := h4.move (w' := W5) (by omega) (o5 rb hB.symm) (o5 g (Qa HGN))
  have HF := hide (Ya h5 (Ya k5 z5))
  clear m1 m2 o4 o5 hW5 s5 k5 h5 h4 k4 hA hB hsr hsn z5
  go_wp2_with fail
  obtain ⟨h5, k5, z5⟩ := Qa HF
  obtain ⟨z_0, z_1, z_2, z_3, zf⟩ := cl4 z5
  refine bodyPost_ret (v := tkA t) (by simp [results, Try.results55, go_sem, z_0, z_1, z_2, z_3]) rfl ?_
  exact ⟨_, _, _, _, _, rfl, rfl, ⟨rfl, rfl, .inr ⟨rfl, fun _ => Qa HM⟩⟩, h5, k5⟩
 rw [decide_eq_false hy] at hwl
 have HM := hide (show y = 0 → ¬ a + 1 < l.length from fun e => absurd e hy)
 have HRB := hide h3b
 have HR := hide h3
 clear h3 h3b hz b2 n1 b23 b3 nr nn hs2 b0 n0 s0 H HB0 hW3 hn hy
 go_wp2_with fail
 refine Qav (md := mLRpc0) (fun w' => w'.heap[rb]? = some (.cells #[.slice (some ⟨g, 0, none⟩) n cap, .int .i64 (a : Int), .int .i64 (d : Int), .int .i64 (i : Int), .int .i64 y, .int .i64 f] 56 (0, 0))) mixedO (by kernel_rfl) rfl (by kernel_rfl) (fun PP hPP => ?_)
 refine Qac rfl (by kernel_rfl) (fun _ _ => by go_simp <;> rfl) ?_
 refine Qal rfl (Qa HRB) (fun K hK => ?_)
 go_simp
 refine hwl.mono ?_
 clear hwl
 rintro en _ ⟨rfl, rfl⟩
 show K _ _
 refine hK _ _ ?_
 clear hK K
 refine Qac rfl (by kernel_rfl) (fun _ _ => by go_simp <;> rfl) ?_
 iterate 11 refine Qds rfl (by kernel_rfl) ?_
 refine Qac (v := .bool false) rfl (by kernel_rfl) (fun _ _ => by go_simp <;> rfl) ?_
 refine Qaw (Qa HRB) (hPP _ _ ?_)
 clear hPP PP
 simp [Act.put, Array.setIfInBounds]
 obtain ⟨W4, hW4⟩ : ∃ W4, W4 = W3.drew := ⟨_, rfl⟩
 have h4 := Qa HR
 rw [← hW4] at h4
 have k4 := Qa HK3
 rw [← hW4] at k4
 have o4 : ∀ q, q ≠ rb → W4.heap[q]? = W3.drew.heap[q]? := fun q hq => by rw [hW4]
 rw [← hW4]
 clear hW4
 obtain ⟨hA, hB, hsr, hsn⟩ := Qa HN
 have m1 := (o4 _ hA).trans hsr
 have m2 := (o4 _ hB).trans hsn
 have L1 := tk_ld m1
 have S1 := Qkr (new := #[.int .i64 t.kind, str t.text, .int .i64 t.num, .int .i64 (t.at_ : Int)]) m2 rfl rfl (by simp [Value.oneCell', str])
 obtain ⟨W5, hW5⟩ : ∃ W5, W5 = W4.setRow w.heap.size #[.int .i64 t.kind, str t.text, .int .i64 t.num, .int .i64 (t.at_ : Int)] := ⟨_, rfl⟩
 rw [← hW5] at S1
 have o5 : ∀ q, q ≠ w.heap.size → W5.heap[q]? = W4.heap[q]? := fun q hq => by rw [hW5]; exact setRow_other _ _ _ _ hq
 have z5 : W5.heap[w.heap.size]? = some (.cells #[.int .i64 t.kind, str t.text, .int .i64 t.num, .int .i64 (t.at_ : Int)] 54 (0, 0)) := by rw [hW5]; exact setRow_heap _ _ _ _ _ _ m2
 have s5 : W5.heap.size = W4.heap.size := by rw [hW5, size_setRow]
 have k5 : Kp rb w W5 := ⟨by rw [hW5]; exact k4.os, by rw [hW5]; exact k4.tape, by rw [hW5]; exact k4.output, by rw [s5]; exact k4.size, fun q hq hn => (o5 q (by omega)).trans (k4.block q hq hn)⟩
 have h5 := h4.move (w' := W5) (by omega) (o5 rb hB.symm) (o5 g (Qa HGN))
 have HF := hide (Ya h5 (Ya k5 z5))
 clear m1 m2 o4 o5 hW5 s5 k5 h5 h4 k4 hA hB hsr hsn z5
 go_wp2_with fail
 obtain ⟨h5, k5, z5⟩ := Qa HF
 obtain ⟨z_0, z_1, z_2, z_3, zf⟩ := cl4 z5
 refine bodyPost_ret (v := tkA t) (by simp [results, Try.results55, go_sem, z_0, z_1, z_2, z_3]) rfl ?_
 exact ⟨_, _, _, _, _, rfl, rfl, ⟨rfl, rfl, .inr ⟨rfl, Qa HM⟩⟩, h5, k5⟩
end
section
open Go.RowKit Go.Maps
theorem Rr.more {rb g cap a d i : Nat} {l : List Tok} {w : World} {y f : Int} (h : Rr rb g cap l w a d i y f) {t : Tok} (ht : l[a]? = some t) (hk : t.kind ≠ 0) : a + 1 < l.length := by
 have := h.lt
 by_cases e : a + 1 < l.length
 · exact e
 have e2 : l.length - 1 = a := by omega
 exact absurd (h.last t (by rw [e2]; exact ht)) hk
theorem Qby {rb g cap a d i : Nat} {l : List Tok} {w : World} {y f : Int} (h : Rr rb g cap l w a d i y f) (s : ByteArray) :
  Calls Try.prog 50 #[.pointer (some ⟨rb, 0, none⟩), .string s] w fun en w' => ∃ b, en = .returned (.bool b) ∧ (b = true → y = 0 ∧ a + 1 < l.length) ∧ Below w.heap.size w w' := by
 have hwl := Qao h
 obtain ⟨t, ht⟩ := h.tok
 have hnw : ∀ w', Below w.heap.size w w' → Calls Try.prog 17 #[.pointer (some ⟨rb, 0, none⟩)] w' fun en w2 => en = .returned (.agg #[.int .i64 t.kind, str t.text, .int .i64 t.num, .int .i64 (t.at_ : Int)]) ∧ Below w'.heap.size w' w2 := fun w' hb => Qak (h.later hb) ht
 obtain ⟨PO, hPO⟩ : ∃ PO : Ending → World → Prop, PO = fun en w' => ∃ b, en = .returned (.bool b) ∧ (b = true → y = 0 ∧ a + 1 < l.length) ∧ Below w.heap.size w w' := ⟨_, rfl⟩
 rw [← hPO]
 have HPO := hide hPO
 have HM := hide (fun hk : t.kind ≠ 0 => h.more ht hk)
 have HNW := hide hnw
 clear hPO h ht hnw
 by_cases hy : y = 0
 ·
  rw [decide_eq_true hy] at hwl
  have HY := hide hy
  clear hy
  by_cases hk : t.kind = 4
  ·
   have gk : (t.kind == 4) = true := beq_iff_eq.2 hk
   have HM2 := hide (Qa HM (by omega))
   have hcl := Qa HNW w (Below.refl _ _)
   clear hk
   go_enter Try.func50, Try.ntmps50
   go_wp2_with fail
   refine hwl.mono ?_
   clear hwl
   rintro en _ ⟨rfl, rfl⟩
   go_wp2_with fail
   refine hcl.mono ?_
   clear hcl
   rintro en w2 ⟨rfl, b2⟩
   have hcl := Qa HNW w2 b2
   have B2 := hide b2
   clear b2
   go_wp2_with fail
   rename_i hK
   refine hK _ _ ?_
   clear hK
   go_wp2_with fail
   refine hcl.mono ?_
   clear hcl
   rintro en w3 ⟨rfl, b3⟩
   have B3 := hide ((Qa B2).trans (b3.mono (Qa B2).size))
   clear b3
   go_wp2_with fail
   rename_i hK
   refine hK _ _ ?_
   clear hK
   go_wp2_with fail
   rw [Qa HPO]
   exact ⟨_, rfl, fun _ => ⟨Qa HY, Qa HM2⟩, Qa B3⟩
  have gk : (t.kind == 4) = false := beq_eq_false_iff_ne.2 hk
  have hcl := Qa HNW w (Below.refl _ _)
  clear hk
  go_enter Try.func50, Try.ntmps50
  go_wp2_with fail
  refine hwl.mono ?_
  clear hwl
  rintro en _ ⟨rfl, rfl⟩
  go_wp2_with fail
  refine hcl.mono ?_
  clear hcl
  rintro en w2 ⟨rfl, b2⟩
  have B2 := hide b2
  clear b2
  go_wp2_with fail
  rename_i hK
  refine hK _ _ ?_
  clear hK
  go_wp2_with fail
  rw [Qa HPO]
  exact ⟨_, rfl, fun e => (by cases e), Qa B2⟩
 rw [decide_eq_false hy] at hwl
 clear hy
 go_enter Try.func50, Try.ntmps50
 go_wp2_with fail
 refine hwl.mono ?_
 clear hwl
 rintro en _ ⟨rfl, rfl⟩
 go_wp2_with fail
 rw [Qa HPO]
 exact ⟨_, rfl, fun e => (by cases e), Below.refl _ _⟩
end
section
open Go.RowKit Go.Maps
def MyA (rb g cap : Nat) (l : List Tok) (w : World) (a d i : Nat) (y : Int) (en : Ending) (w' : World) : Prop :=
 ∃ b a' f', en = .returned (.bool b) ∧ (b = true → y = 0 ∧ a' = a + 1) ∧ (b = false → a' = a) ∧ Rr rb g cap l w' a' d i y f' ∧ Kp rb w w'
def CoY (a i : Nat) (y : Int) (a' i' : Nat) (y' : Int) : Prop := i' = i ∧ a ≤ a' ∧ (y' = 0 → y = 0 ∧ a < a')
def txV (_ : World) (v : Value) : Prop := ∃ x : Txt, v = str x

theorem Qb {rb g cap a d i : Nat} {l : List Tok} {w : World} {y f : Int} (h : Rr rb g cap l w a d i y f) (s : ByteArray) :
  Calls Try.prog 51 #[.pointer (some ⟨rb, 0, none⟩), .string s] w fun en w' => MyA rb g cap l w a d i y en w' := by
 have hsg := Qby h s
 obtain ⟨t, ht⟩ := h.tok
 have H := hide (Ya h ht)
 clear h ht
 go_enter Try.func51, Try.ntmps51
 go_wp2_with fail
 refine hsg.mono ?_
 clear hsg
 rintro en w2 ⟨b, rfl, hb, b2⟩
 have htk := Qau ((Qa H).1.later b2) (Qa H).2
 have H2 := hide (Ya hb b2)
 clear hb b2
 cases b
 ·
  clear htk
  go_wp2_with fail
  go_ret
  exact ⟨false, _, _, rfl, fun e => (by cases e), fun _ => rfl, (Qa H).1.later (Qa H2).2, Kp.of_below (Qa H2).2⟩

 go_wp2_with fail
 refine htk.mono ?_
 clear htk
 rintro en w3 ⟨_, a', i', y', f', rfl, rfl, hY, h3, k3⟩
 have H3 := hide (Ya hY (Ya h3 k3))
 clear hY h3 k3
 go_wp2_with fail
 go_ret
 obtain ⟨hb, b2⟩ := Qa H2
 obtain ⟨⟨rfl, rfl, hY⟩, h3, k3⟩ := Qa H3
 obtain ⟨e1, e2⟩ := hb (by trivial)
 rcases hY with ⟨_, _, rfl⟩ | ⟨_, hn⟩
 · exact ⟨true, _, _, rfl, fun _ => ⟨e1, rfl⟩, fun e => (by cases e), h3, (Kp.of_below b2).trans k3⟩
 · exact absurd e2 (hn e1)
theorem Qbd {rb g cap a d i : Nat} {l : List Tok} {w : World} {y f : Int} (h : Rr rb g cap l w a d i y f) (s : ByteArray) :
  Calls Try.prog 58 #[.pointer (some ⟨rb, 0, none⟩), .string s] w fun en w' => RA rb g cap l w d noV (CoY a i y) en w' := by
 have hmy := Qb h s
 clear h
 go_enter Try.func58, Try.ntmps58
 go_wp2_with fail
 refine hmy.mono ?_
 clear hmy
 rintro en w2 ⟨b, a', f', rfl, h1, h0, h2, k2⟩
 have hfl := Qax h2 (why := 10) (by decide)
 have H2 := hide (Ya h1 (Ya h0 (Ya h2 k2)))
 clear h1 h0 h2 k2
 cases b
 ·
  go_wp2_with fail
  refine hfl.mono ?_
  clear hfl
  rintro en w3 ⟨_, a3, i3, y3, f3, rfl, rfl, hY, h3, k3⟩
  have H3 := hide (Ya hY (Ya h3 k3))
  clear hY h3 k3
  go_wp2_with fail
  go_end0
  obtain ⟨_, h0, _, k2⟩ := Qa H2
  obtain rfl := h0 (by trivial)
  obtain ⟨⟨rfl, rfl, hY⟩, h3, k3⟩ := Qa H3
  exact ⟨_, _, _, _, _, rfl, rfl, ⟨rfl, Nat.le_refl _, fun e => absurd e hY⟩, h3, k2.trans k3⟩

 clear hfl
 go_wp2_with fail
 go_end0
 obtain ⟨h1, _, h2, k2⟩ := Qa H2
 obtain ⟨e1, rfl⟩ := h1 (by trivial)
 exact ⟨_, _, _, _, _, rfl, rfl, ⟨rfl, by omega, fun _ => ⟨e1, by omega⟩⟩, h2, k2⟩
theorem Qdi {rb g cap a d i : Nat} {l : List Tok} {w : World} {y f : Int} (h : Rr rb g cap l w a d i y f) :
  Calls Try.prog 59 #[.pointer (some ⟨rb, 0, none⟩)] w fun en w' => RA rb g cap l w d txV (CoY a i y) en w' := by
 obtain ⟨t, ht⟩ := h.tok
 have hnw := Qak h ht
 unfold tkA at hnw
 have H := hide (Ya h ht)
 clear h ht
 go_enter Try.func59, Try.ntmps59
 go_wp2_with fail
 refine hnw.mono ?_
 clear hnw
 rintro en w2 ⟨rfl, b2⟩
 have h2 := (Qa H).1.later b2
 have hfl := Qax h2 (why := 10) (by decide)
 have htk := Qau h2 (Qa H).2
 unfold tkA at htk
 have H2 := hide (Ya h2 b2)
 clear h2 b2
 go_wp2_with fail
 rename_i hK
 refine hK _ _ ?_
 clear hK
 by_cases hk : t.kind = 1
 ·
  have gk : (t.kind != 1) = false := by simpa using hk
  have HM := hide ((Qa H).1.more (Qa H).2 (by omega))
  clear hk hfl
  go_wp2_with fail
  refine htk.mono ?_
  clear htk
  rintro en w3 ⟨_, a', i', y', f', rfl, rfl, hY, h3, k3⟩
  have H3 := hide (Ya hY (Ya h3 k3))
  clear hY h3 k3
  go_wp2_with fail
  rename_i hK
  refine hK _ _ ?_
  clear hK
  go_wp2_with fail
  go_ret
  obtain ⟨⟨rfl, rfl, hY⟩, h3, k3⟩ := Qa H3
  refine ⟨_, _, _, _, _, rfl, ⟨_, rfl⟩, ⟨rfl, ?_, ?_⟩, h3, (Kp.of_below (Qa H2).2).trans k3⟩
  · rcases hY with ⟨_, _, rfl⟩ | ⟨rfl, _⟩ <;> omega
  intro e
  rcases hY with ⟨_, _, rfl⟩ | ⟨_, hn⟩
  · exact ⟨e, by omega⟩
  · exact absurd (Qa HM) (hn e)
 have gk : (t.kind != 1) = true := by simpa using hk
 clear hk htk
 go_wp2_with fail
 refine hfl.mono ?_
 clear hfl
 rintro en w3 ⟨_, a3, i3, y3, f3, rfl, rfl, ⟨rfl, rfl, hY⟩, h3, k3⟩
 have htk := Qau h3 (Qa H).2
 unfold tkA at htk
 have H3 := hide (Ya hY k3)
 clear hY h3 k3
 go_wp2_with fail
 refine htk.mono ?_
 clear htk
 rintro en w4 ⟨_, a', i', y', f', rfl, rfl, hY, h4, k4⟩
 have H4 := hide (Ya hY (Ya h4 k4))
 clear hY h4 k4
 go_wp2_with fail
 rename_i hK
 refine hK _ _ ?_
 clear hK
 go_wp2_with fail
 go_ret
 obtain ⟨⟨rfl, rfl, hY⟩, h4, k4⟩ := Qa H4
 refine ⟨_, _, _, _, _, rfl, ⟨_, rfl⟩, ⟨rfl, ?_, fun e => absurd e (Qa H3).1⟩, h4, ((Kp.of_below (Qa H2).2).trans (Qa H3).2).trans k4⟩
 rcases hY with ⟨_, _, rfl⟩ | ⟨rfl, _⟩ <;> omega
end
section
open Go.RowKit Go.Maps
theorem Qbz {rb g cap a d i : Nat} {l : List Tok} {w : World} {y f : Int} (h : Rr rb g cap l w a d i y f) :
  Calls Try.prog 57 #[.pointer (some ⟨rb, 0, none⟩)] w fun en w' => RA rb g cap l w d txV (CoY a i y) en w' := by
 obtain ⟨t, ht⟩ := h.tok
 have hnw : ∀ w', Below w.heap.size w w' → Calls Try.prog 17 #[.pointer (some ⟨rb, 0, none⟩)] w' fun en w2 => en = .returned (.agg #[.int .i64 t.kind, str t.text, .int .i64 t.num, .int .i64 (t.at_ : Int)]) ∧ Below w'.heap.size w' w2 := fun w' hb => Qak (h.later hb) ht
 have hsz : (⟨t.text.toArray⟩ : ByteArray).size ≤ 140737488355328 := by
  have := h.tx t (List.mem_of_getElem? ht)
  have e : (⟨t.text.toArray⟩ : ByteArray).size = t.text.length := by simp [ByteArray.size]
  omega
 have hwd : ∀ w', Calls Try.prog 91 #[str t.text] w' fun e w2 => e = .returned (.bool (wordP t.text)) ∧ w2 = w' := fun w' => by
  have := Qit ⟨t.text.toArray⟩ hsz w'
  simpa [str] using this
 have HNW := hide hnw
 have HWD := hide hwd
 have H := hide (Ya h ht)
 have hcl := Qa HNW w (Below.refl _ _)
 clear h ht hnw hwd hsz
 go_enter Try.func57, Try.ntmps57
 go_wp2_with fail
 refine hcl.mono ?_
 clear hcl
 rintro en w2 ⟨rfl, b2⟩
 have B2 := hide (b2)
 clear b2
 go_wp2_with fail
 rename_i hK
 refine hK _ _ ?_
 clear hK
 by_cases hk : t.kind = 1
 ·
  have gk : (t.kind != 1) = false := by simpa using hk
  have HM := hide ((Qa H).1.more (Qa H).2 (by omega))
  have hcl := Qa HNW w2 (Qa B2)
  clear hk
  go_wp2_with fail
  refine hcl.mono ?_
  clear hcl
  rintro en w3 ⟨rfl, b3⟩
  have B3 := hide ((Qa B2).trans (b3.mono (Qa B2).size))
  clear b3
  have hcw := Qa HWD w3
  obtain ⟨bw, hbw⟩ : ∃ bw, bw = wordP t.text := ⟨_, rfl⟩
  rw [← hbw] at hcw
  clear hbw
  go_wp2_with fail
  rename_i hK
  refine hK _ _ ?_
  clear hK
  go_wp2_with fail
  refine hcw.mono ?_
  clear hcw
  rintro en w3q ⟨rfl, rfl⟩
  cases bw
  ·
   have h3 := (Qa H).1.later (Qa B3)
   have hfl := Qax h3 (why := 10) (by decide)
   clear h3
   go_wp2_with fail
   refine hfl.mono ?_
   clear hfl
   rintro en w8 ⟨_, a3, i3, y3, f3, rfl, rfl, ⟨rfl, rfl, hY⟩, h8, k8⟩
   have htk := Qau h8 (Qa H).2
   unfold tkA at htk
   have H8 := hide (Ya hY k8)
   clear hY h8 k8
   go_wp2_with fail
   refine htk.mono ?_
   clear htk
   rintro en w9 ⟨_, a', i', y', f', rfl, rfl, hY, h9, k9⟩
   have H9 := hide (Ya hY (Ya h9 k9))
   clear hY h9 k9
   go_wp2_with fail
   rename_i hK
   refine hK _ _ ?_
   clear hK
   go_wp2_with fail
   go_ret
   obtain ⟨⟨rfl, rfl, hY⟩, h9, k9⟩ := Qa H9
   refine ⟨_, _, _, _, _, rfl, ⟨_, rfl⟩, ⟨rfl, ?_, fun e => absurd e (Qa H8).1⟩, h9, ((Kp.of_below (Qa B3)).trans (Qa H8).2).trans k9⟩
   rcases hY with ⟨_, _, rfl⟩ | ⟨rfl, _⟩ <;> omega
  have hcl := Qa HNW w3q (Qa B3)
  go_wp2_with fail
  refine hcl.mono ?_
  clear hcl
  rintro en w4 ⟨rfl, b4⟩
  have B4 := hide ((Qa B3).trans (b4.mono (Qa B3).size))
  clear b4
  go_wp2_with fail
  rename_i hK
  refine hK _ _ ?_
  clear hK
  by_cases hu : t.text = [95]
  ·
   have gu : (t.text == [95]) = true := by simpa using hu
   clear hu
   have h3 := (Qa H).1.later (Qa B4)
   have hfl := Qax h3 (why := 10) (by decide)
   clear h3
   go_wp2_with fail
   refine hfl.mono ?_
   clear hfl
   rintro en w8 ⟨_, a3, i3, y3, f3, rfl, rfl, ⟨rfl, rfl, hY⟩, h8, k8⟩
   have htk := Qau h8 (Qa H).2
   unfold tkA at htk
   have H8 := hide (Ya hY k8)
   clear hY h8 k8
   go_wp2_with fail
   refine htk.mono ?_
   clear htk
   rintro en w9 ⟨_, a', i', y', f', rfl, rfl, hY, h9, k9⟩
   have H9 := hide (Ya hY (Ya h9 k9))
   clear hY h9 k9
   go_wp2_with fail
   rename_i hK
   refine hK _ _ ?_
   clear hK
   go_wp2_with fail
   go_ret
   obtain ⟨⟨rfl, rfl, hY⟩, h9, k9⟩ := Qa H9
   refine ⟨_, _, _, _, _, rfl, ⟨_, rfl⟩, ⟨rfl, ?_, fun e => absurd e (Qa H8).1⟩, h9, ((Kp.of_below (Qa B4)).trans (Qa H8).2).trans k9⟩
   rcases hY with ⟨_, _, rfl⟩ | ⟨rfl, _⟩ <;> omega
  have gu : (t.text == [95]) = false := by simpa using hu
  clear hu
  have htk := Qau ((Qa H).1.later (Qa B4)) (Qa H).2
  unfold tkA at htk
  go_wp2_with fail
  refine htk.mono ?_
  clear htk
  rintro en w9 ⟨_, a', i', y', f', rfl, rfl, hY, h9, k9⟩
  have H9 := hide (Ya hY (Ya h9 k9))
  clear hY h9 k9
  go_wp2_with fail
  rename_i hK
  refine hK _ _ ?_
  clear hK
  go_wp2_with fail
  go_ret
  obtain ⟨⟨rfl, rfl, hY⟩, h9, k9⟩ := Qa H9
  refine ⟨_, _, _, _, _, rfl, ⟨_, rfl⟩, ⟨rfl, ?_, ?_⟩, h9, (Kp.of_below (Qa B4)).trans k9⟩
  · rcases hY with ⟨_, _, rfl⟩ | ⟨rfl, _⟩ <;> omega
  intro e
  rcases hY with ⟨_, _, rfl⟩ | ⟨_, hn⟩
  · exact ⟨e, by omega⟩
  · exact absurd (Qa HM) (hn e)
 have gk : (t.kind != 1) = true := by simpa using hk
 clear hk
 have h3 := (Qa H).1.later (Qa B2)
 have hfl := Qax h3 (why := 10) (by decide)
 clear h3
 go_wp2_with fail
 refine hfl.mono ?_
 clear hfl
 rintro en w8 ⟨_, a3, i3, y3, f3, rfl, rfl, ⟨rfl, rfl, hY⟩, h8, k8⟩
 have htk := Qau h8 (Qa H).2
 unfold tkA at htk
 have H8 := hide (Ya hY k8)
 clear hY h8 k8
 go_wp2_with fail
 refine htk.mono ?_
 clear htk
 rintro en w9 ⟨_, a', i', y', f', rfl, rfl, hY, h9, k9⟩
 have H9 := hide (Ya hY (Ya h9 k9))
 clear hY h9 k9
 go_wp2_with fail
 rename_i hK
 refine hK _ _ ?_
 clear hK
 go_wp2_with fail
 go_ret
 obtain ⟨⟨rfl, rfl, hY⟩, h9, k9⟩ := Qa H9
 refine ⟨_, _, _, _, _, rfl, ⟨_, rfl⟩, ⟨rfl, ?_, fun e => absurd e (Qa H8).1⟩, h9, ((Kp.of_below (Qa B2)).trans (Qa H8).2).trans k9⟩
 rcases hY with ⟨_, _, rfl⟩ | ⟨rfl, _⟩ <;> omega
end
end Go.Proofs.Ytfmbpaoapjmdnaa
