/- The document's reader: lists that grow. The document's reader: fields. The document's reader: exprs, where expr is told. -/
import Derived.Test.YtfmbpaoapjmdnaaQb09
import Derived.Deep.Cut
import Derived.Deep.CutRange
set_option maxRecDepth 100000
set_option maxHeartbeats 32000000
namespace Go.Proofs.Ytfmbpaoapjmdnaa
section
open Go.RowKit Go.Maps
def Qown {α : Type} (p : PS α) (k : Nat) (T : TypeId) (w wr : World) (sl : Value) (acc : List α) : Prop := ∃ css, wr.ownsRow w.heap.size T k sl acc.length css.flatten ∧ All p k (fun b => w.heap.size ≤ b ∧ some b ≠ sl.ownBlock) wr css acc
section
variable {α : Type} {p : PS α} {k : Nat} {T : TypeId}
theorem Qown.nil (w wr : World) : Qown p k T w wr (.slice none 0 0) [] := ⟨[], World.ownsRow_nil _ _ _ _, ⟨rfl, fun j x cs hx => by simp at hx⟩⟩
theorem Qown.kp (hp : PSok p) {rb : Nat} {w wr w' : World} {sl : Value} {acc : List α} (h : Qown p k T w wr sl acc) (k2 : Kp rb wr w') (hr : rb < w.heap.size) : Qown p k T w w' sl acc := by
 obtain ⟨css, ho, ha⟩ := h
 refine ⟨css, ⟨ho.1, ?_⟩, ha.same hp k2.size (fun b hs hb => k2.block b hb (by omega))⟩
 rcases ho.2 with e | ⟨g, cap, cur, e1, e2, e3, e4⟩
 · exact .inl e
 · exact .inr ⟨g, cap, cur, e1, e2, k2.keep e3 (by omega), e4⟩
theorem Qown.sl {w wr : World} {sl : Value} {acc : List α} (h : Qown p k T w wr sl acc) : ∃ a c, sl = .slice a acc.length c ∧ acc.length ≤ c ∧ c ≤ maxLen := by
 obtain ⟨css, ho, _⟩ := h
 rcases ho.2 with ⟨e, e2⟩ | ⟨g, cap, cur, e, _, _, e4, e5, _⟩
 · exact ⟨none, 0, by rw [e, e2], by omega, by unfold maxLen; omega⟩
 · exact ⟨_, _, e, e4, e5⟩
theorem Qown.ls (hp : PSok p) {w wr : World} {sl : Value} {acc : List α} (h : Qown p k T w wr sl acc) : LsAt p k (fun b => w.heap.size ≤ b) wr sl acc := by
 obtain ⟨css, ho, ha⟩ := h
 exact LsAt.of ho (ha.mono hp (fun b _ hs => hs.1))
theorem Qown.more (hp : PSok p) {ST : TypeId} {i0 : TypeInfo} {z : Value} {by_ : Nat} (ht : Try.prog.underlying ST = some (.slice T)) (hi : Try.prog.info? T = some i0) (hz : i0.zero = some z) (hsz : i0.size = k) (hby : i0.bytes = by_) (hzc : z.cells.size = k) (hk : 0 < k) (hb6 : by_ ≤ 1000)
  {rb g cap a d i : Nat} {l : List Tok} {y f : Int} {w wr w2 : World} {sl : Value} {acc : List α} (h : Qown p k T w wr sl acc) (kp : Kp rb w wr) {x : α} {cs : List Value}
  (hl : cs.length = k) (h1 : ∀ c ∈ cs, c.oneCell' = true) (hx : p (fun b => wr.heap.size ≤ b) w2 cs x) (hR : Rr rb g cap l w2 a d i y f) (k2 : Kp rb wr w2) (hrb : rb < w.heap.size) (hg : g < w.heap.size) (hf : acc.length ≤ 65536) :
  ∃ r w8, (Builtin.append_ #[ST, ST] ST #[sl, .slice (some ⟨w2.heap.size, 0, none⟩) 1 1]).run Try.prog (w2.alloc (.cells cs.toArray T)) = .ok r w8 ∧ Kp rb w w8 ∧ Rr rb g cap l w8 a d i y f ∧ Qown p k T w w8 r (acc ++ [x]) := by
 obtain ⟨css, ho, ha⟩ := h
 have hs0 := kp.size
 have hs2 := k2.size
 have hown : ∀ b, some b = sl.ownBlock → w.heap.size ≤ b ∧ b < wr.heap.size := fun b e => World.ownsRow.lt ho b e.symm
 have ho2 : (w2.alloc (.cells cs.toArray T)).ownsRow w.heap.size T k sl acc.length css.flatten := by
  refine World.ownsRow.alloc ?_ _
  refine ⟨ho.1, ?_⟩
  rcases ho.2 with e | ⟨g, cap, cur, e1, e2, e3, e4⟩
  · exact .inl e
  · exact .inr ⟨g, cap, cur, e1, e2, k2.keep e3 (by omega), e4⟩
 obtain ⟨r, w8, hr, o8, g8, _, a8⟩ := run_append_own_at (P := Try.prog) (w2.alloc (.cells cs.toArray T)) w.heap.size ST ST T i0 z k by_ ht hi hz hsz hby hzc hk sl acc.length css.flatten ho2 ⟨w2.heap.size, 0, none⟩ 1 1 cs (by rw [hl, Nat.one_mul]) (fun j u hj => by
  have e1 : (⟨w2.heap.size, 0, none⟩ : Addr).add j = ⟨w2.heap.size, j, none⟩ := by cases j <;> simp [Addr.add]
  rw [e1, Qaf (heap_alloc_new w2 _)]
  simpa using hj) h1 (by unfold maxLen; omega) (by
  have h3 : acc.length + 1 ≤ 65537 := by omega
  have := Nat.mul_le_mul h3 hb6
  omega) (by simp; omega)
 have hz2 : (w2.alloc (.cells cs.toArray T)).heap.size = w2.heap.size + 1 := by simp
 have hs8 := g8.size
 have hsame : ∀ b, b < w2.heap.size → some b ≠ sl.ownBlock → w8.heap[b]? = w2.heap[b]? := fun b hb hn => by
  rw [g8.block b (by omega) hn, Below.heap_alloc _ _ _ hb]
 have kp8 : Kp rb w w8 := by
  have hb := (Below.refl w2.heap.size w2).alloc (Nat.le_refl _) (.cells cs.toArray T)
  refine ⟨g8.os.trans (hb.os.trans (k2.os.trans kp.os)), g8.tape.trans (hb.tape.trans (k2.tape.trans kp.tape)), g8.output.trans (hb.output.trans (k2.output.trans kp.output)), by omega, fun j hj hn => ?_⟩
  rw [hsame j (by omega) (fun e => by have := (hown j e).1; omega), k2.block j (by omega) hn]
  exact kp.block j hj hn
 have rd8 : Rr rb g cap l w8 a d i y f := hR.move (by omega) (hsame rb (by omega) (fun e => by have := (hown rb e).1; omega)) (hsame g (by omega) (fun e => by have := (hown g e).1; omega))
 have hrn : ∀ b, some b = r.ownBlock → some b = sl.ownBlock ∨ w2.heap.size < b + 1 ∧ w2.heap.size + 1 ≤ b := fun b e => by
  rcases a8 with e2 | e2
  · exact .inl (e.trans e2)
  rw [e2] at e
  simp only [Option.some.injEq] at e
  exact .inr (by omega)
 refine ⟨r, w8, hr, kp8, rd8, css ++ [cs], by rw [List.length_append]; simpa using o8, ?_⟩
 have hold : All p k (fun b => w.heap.size ≤ b ∧ some b ≠ r.ownBlock) w8 css acc := by
  have h2 : All p k (fun b => (w.heap.size ≤ b ∧ some b ≠ sl.ownBlock) ∧ b < wr.heap.size) w2 css acc := (ha.mono hp (fun b hb hs => ⟨hs, hb⟩)).same hp hs2 (fun b hs hb => k2.block b hb (by omega))
  have h3 := h2.same hp (w' := w8) (by omega) (fun b hs hb => hsame b hb hs.1.2)
  refine h3.mono hp (fun b _ hs => ⟨hs.1.1, fun e => ?_⟩)
  rcases hrn b e with e | e
  · exact hs.1.2 e
  have := hs.2
  omega
 have hx8 : p (fun b => w.heap.size ≤ b ∧ some b ≠ r.ownBlock) w8 cs x := by
  have h2 := hp.mono _ (fun b => wr.heap.size ≤ b ∧ b < w2.heap.size) _ _ _ hx (fun b hb hs => ⟨hs, hb⟩)
  have h3 := hp.same _ _ w8 _ _ h2 (by omega) (fun b hs hb => hsame b hb (fun e => by have := (hown b e).2; have := hs.1; omega))
  refine hp.mono _ _ _ _ _ h3 (fun b _ hs => ⟨by have := hs.1; omega, fun e => ?_⟩)
  rcases hrn b e with e | e
  ·
   have := (hown b e).2
   have := hs.1
   omega
  have := hs.2
  omega
 exact hold.snoc hl hx8
end
def leftR (rb n : Nat) (w : World) : Nat := match w.cell? ⟨rb, 4, none⟩ with
 | some (.int _ y) => if y = 0 then (match w.cell? ⟨rb, 1, none⟩ with | some (.int _ a) => n - a.toNat | _ => 0) + 1 else 0
 | _ => 0
theorem Qai {rb g cap a d i : Nat} {l : List Tok} {w : World} {y f : Int} (h : Rr rb g cap l w a d i y f) (n : Nat) : leftR rb n w = if y = 0 then n - a + 1 else 0 := by
 obtain ⟨_, x1, _, _, x4, _, _⟩ := cl6 h.box
 unfold leftR
 rw [x4, x1]
 simp
end
section
open Go.RowKit Go.Maps
def fdV (w : World) (w' : World) (v : Value) : Prop := ∃ fs : List Fld, LsAt PF 2 (fun b => w.heap.size ≤ b) w' v fs
theorem Qdz {rb g cap a d i : Nat} {l : List Tok} {w : World} {y f : Int} (h : Rr rb g cap l w a d i y f) (so se : ByteArray) :
  Calls Try.prog 89 #[.pointer (some ⟨rb, 0, none⟩), .string so, .string se] w fun en w' => RA rb g cap l w d (fdV w) (CoY a i y) en w' := by
 have hms := Qbd h so
 have HRB := hide (Ya (Qab h.box) h.row.lt)
 clear h
 go_enter Try.func89, Try.ntmps89
 go_wp2_with fail
 refine hms.mono ?_
 clear hms
 rintro en w1 ⟨_, a0, i0, y0, f0, rfl, rfl, ⟨ei, ha0, hy0⟩, h0, k0⟩
 rw [ei] at h0
 clear ei
 have H0 := hide (Ya ha0 (Ya hy0 (Ya h0 k0)))
 clear ha0 hy0 h0 k0
 go_wp2_with fail
 go_loopw [7, 8] (fun sl fb wr => ∃ (acc : List Fld) (a1 : Nat) (y1 f1 : Int) (fst : Bool) (sa : Option Addr) (sc : Nat), sl = .slice sa acc.length sc ∧ fb = .bool fst ∧ acc.length ≤ sc ∧ sc ≤ maxLen ∧ Hid (Qown PF 2 103 w wr sl acc ∧ Rr rb g cap l wr a1 d i y1 f1 ∧ Kp rb w wr ∧ acc.length ≤ a1 + 1 ∧ a ≤ a1 ∧ (y1 = 0 → y = 0 ∧ a < a1 ∧ acc.length ≤ a1))) (fun _ _ wr => leftR rb l.length wr)
 case atStart =>
  obtain ⟨ha0, hy0, h0, k0⟩ := Qa H0
  exact ⟨[], a0, y0, f0, true, none, 0, rfl, rfl, Nat.le_refl _, by unfold maxLen; omega, hide ⟨Qown.nil _ _, h0, k0, Nat.zero_le _, ha0, fun e => ⟨(hy0 e).1, (hy0 e).2, Nat.zero_le _⟩⟩⟩
 obtain ⟨acc, a1, y1, f1, fst, sa, sc, rfl, rfl, hc1, hc2, HI⟩ := hrel
 unfold maxLen at hc2
 clear H0
 go_upto_region 4 with fail
 go_cut [31] from 13 to 48 (fun c wc => ∃ (b : Bool) (aX : Nat) (fX : Int), c = .bool b ∧ Hid (Qown PF 2 103 w wc (.slice sa acc.length sc) acc ∧ Rr rb g cap l wc aX d i y1 fX ∧ Kp rb w wc ∧ acc.length ≤ aX + 1 ∧ (y1 = 0 → y = 0) ∧ a ≤ aX ∧ a1 ≤ aX ∧ (b = true → y1 = 0 ∧ acc.length ≤ aX)))
 case first =>
  have hwl := Qao (Qa HI).2.1
  by_cases hy : y1 = 0
  ·
   rw [decide_eq_true hy] at hwl
   have HY := hide hy
   clear hy
   have hI := (Qa HI).2.2.2.2
   have hI2 := hI.2 (Qa HY)
   have hI3 := hide (Ya hI hI2)
   clear hI hI2
   cases fst
   ·
    have hmy := Qb (Qa HI).2.1 ⟨#[44]⟩
    go_wp2_with fail
    refine hwl.mono ?_
    clear hwl
    rintro en wq ⟨rfl, rfl⟩
    go_wp2_with fail
    refine hmy.mono ?_
    clear hmy
    rintro en WX ⟨b, a2, f2, rfl, hb1, hb0, h2, k2⟩
    have e2 : a1 ≤ a2 := by
     cases b with
     | true => have := (hb1 rfl).2; omega
     | false => have := hb0 rfl; omega
    have X2 := hide (Ya ((Qa HI).1.kp Qaz k2 (Qa HRB).1) (Ya h2 (Ya ((Qa HI).2.2.1.trans k2) e2)))
    clear hb1 hb0 h2 k2 e2
    cases b
    ·
     go_wp2_with fail
     go_meet
     obtain ⟨h1, h2, h3, e2⟩ := Qa X2
     obtain ⟨hI, hI2⟩ := Qa hI3
     exact ⟨false, a2, f2, rfl, hide ⟨h1, h2, h3, by omega, fun e => (hI.2 e).1, by omega, e2, fun e => by cases e⟩⟩
    go_wp2_with fail
    go_meet
    obtain ⟨h1, h2, h3, e2⟩ := Qa X2
    obtain ⟨hI, hI2⟩ := Qa hI3
    exact ⟨true, a2, f2, rfl, hide ⟨h1, h2, h3, by omega, fun e => (hI.2 e).1, by omega, e2, fun _ => ⟨Qa HY, by omega⟩⟩⟩
   have hsg := Qby (Qa HI).2.1 se
   go_wp2_with fail
   refine hwl.mono ?_
   clear hwl
   rintro en wq ⟨rfl, rfl⟩
   go_wp2_with fail
   refine hsg.mono ?_
   clear hsg
   rintro en WX ⟨b, rfl, hb, b2⟩
   have X2 := hide (Ya ((Qa HI).1.kp Qaz (Kp.of_below (rb := rb) b2) (Qa HRB).1) (Ya ((Qa HI).2.1.later b2) ((Qa HI).2.2.1.trans (Kp.of_below b2))))
   clear hb b2
   cases b
   ·
    go_wp2_with fail
    go_meet
    obtain ⟨h1, h2, h3⟩ := Qa X2
    obtain ⟨hI, hI2⟩ := Qa hI3
    exact ⟨true, a1, f1, rfl, hide ⟨h1, h2, h3, by omega, fun e => (hI.2 e).1, hI.1, Nat.le_refl _, fun _ => ⟨Qa HY, by omega⟩⟩⟩
   go_wp2_with fail
   go_meet
   obtain ⟨h1, h2, h3⟩ := Qa X2
   obtain ⟨hI, hI2⟩ := Qa hI3
   exact ⟨false, a1, f1, rfl, hide ⟨h1, h2, h3, by omega, fun e => (hI.2 e).1, hI.1, Nat.le_refl _, fun e => by cases e⟩⟩
  rw [decide_eq_false hy] at hwl
  have HY := hide hy
  clear hy
  go_wp2_with fail
  refine hwl.mono ?_
  clear hwl
  rintro en wq ⟨rfl, rfl⟩
  go_wp2_with fail
  go_meet
  exact ⟨false, a1, f1, rfl, hide ⟨(Qa HI).1, (Qa HI).2.1, (Qa HI).2.2.1, (Qa HI).2.2.2.1, fun e => absurd e (Qa HY), (Qa HI).2.2.2.2.1, Nat.le_refl _, fun e => by cases e⟩⟩
 obtain ⟨b, aX, fX, rfl, X0⟩ := hcut
 cases b
 ·
  have X2 := hide (Ya (Qa X0).1 (Ya (Qa X0).2.1 (Ya (Qa X0).2.2.1 (Ya (Qa X0).2.2.2.1 (Ya (Qa X0).2.2.2.2.1 (Qa X0).2.2.2.2.2)))))
  have hms := Qbd (Qa X2).2.1 se
  go_wp2_with fail
  refine hms.mono ?_
  clear hms
  rintro en w9 ⟨_, a9, i9, y9, f9, rfl, rfl, ⟨ei, ha9, hy9⟩, h9, k9⟩
  rw [ei] at h9
  clear ei
  have HZ := hide (Ya ha9 (Ya hy9 (Ya h9 k9)))
  clear ha9 hy9 h9 k9
  go_wp2_with fail
  go_ret
  obtain ⟨ha9, hy9, h9, k9⟩ := Qa HZ
  obtain ⟨hq, h2, k2, ha2, hy2, ha3, _⟩ := Qa X2
  exact ⟨_, _, _, _, _, rfl, ⟨acc, (hq.kp Qaz k9 (Qa HRB).1).ls Qaz⟩, ⟨rfl, by omega, fun e => ⟨hy2 (hy9 e).1, by have := (hy9 e).2; omega⟩⟩, h9, k2.trans k9⟩
 have HY := hide ((Qa X0).2.2.2.2.2.2.2 rfl).1
 have X2 := hide (Ya (Qa X0).1 (Ya (Qa X0).2.1 (Ya (Qa X0).2.2.1 (Ya ((Qa X0).2.2.2.2.2.2.2 rfl).2 (Ya (Qa X0).2.2.2.2.1 (Ya (Qa X0).2.2.2.2.2.1 (Qa X0).2.2.2.2.2.2.1))))))
 clear X0
 go_upto_if 34 with fail
 go_cut [] from 13 to 48 (fun WX => ∃ (yF fF : Int), Hid (Qown PF 2 103 w WX (.slice sa acc.length sc) acc ∧ Rr rb g cap l WX aX d i yF fF ∧ Kp rb w WX ∧ acc.length ≤ aX ∧ (yF = 0 → y = 0) ∧ a ≤ aX ∧ a1 ≤ aX))
 case first =>
  by_cases h8 : 8 ≤ acc.length
  ·
   have g8 : (8 : Int) ≤ (acc.length : Int) := by omega
   have hfl := Qax (Qa X2).2.1 (why := 3) (by decide)
   clear h8
   go_wp2_with fail
   refine hfl.mono ?_
   clear hfl
   rintro en wf ⟨_, a3, i3, y3, f3, rfl, rfl, ⟨ea, ei, hY3⟩, h3, k3⟩
   rw [ea, ei] at h3
   clear ea ei
   have XF := hide (Ya ((Qa X2).1.kp Qaz k3 (Qa HRB).1) (Ya h3 (Ya ((Qa X2).2.2.1.trans k3) (Ya (Qa X2).2.2.2.1 (Ya (show y3 = 0 → y = 0 from fun e => absurd e hY3) (Qa X2).2.2.2.2.2)))))
   clear h3 k3 hY3
   go_wp2_with fail
   go_meet
   exact ⟨_, _, XF⟩
  have g8 : ¬ ((8 : Int) ≤ (acc.length : Int)) := by omega
  clear h8
  go_wp2_with fail
  go_meet
  exact ⟨_, _, X2⟩
 obtain ⟨yF, fF, XF⟩ := hcut
 obtain ⟨WX, hWX⟩ : ∃ WX, WX = wc := ⟨_, rfl⟩
 subst hWX
 clear X2
 have hwd := Qbz (Qa XF).2.1
 go_wp2_with fail
 refine hwd.mono ?_
 clear hwd
 rintro en w4 ⟨_, a4, i4, y4, f4, rfl, ⟨x4, rfl⟩, ⟨ei, ha4, hy4⟩, h4, k4⟩
 rw [ei] at h4
 clear ei
 obtain ⟨W5, hW5⟩ : ∃ W5, W5 = w4.alloc (.cells #[str x4, .string ⟨#[]⟩] 103) := ⟨_, rfl⟩
 have b5 : Below w4.heap.size w4 W5 := by rw [hW5]; exact (Below.refl _ w4).alloc (Nat.le_refl _) _
 have n5 : W5.heap[w4.heap.size]? = some (.cells #[str x4, .string ⟨#[]⟩] 103 (0, 0)) := by rw [hW5]; exact heap_alloc_new w4 _
 have hms := Qbd (h4.later b5) ⟨#[58]⟩
 obtain ⟨kb, hkb⟩ : ∃ kb, w4.heap.size = kb := ⟨_, rfl⟩
 have H4 := hide (Ya ha4 (Ya hy4 (Ya k4 (Ya b5 (Ya n5 hkb)))))
 have HW5 := hide hW5
 clear ha4 hy4 h4 k4 b5 n5 hW5 hkb
 go_wp2_with fail
 rw [← Qa HW5, (Qa H4).2.2.2.2.2]
 clear HW5
 refine hms.mono ?_
 clear hms
 rintro en w6 ⟨_, a6, i6, y6, f6, rfl, rfl, ⟨ei, ha6, hy6⟩, h6, k6⟩
 rw [ei] at h6
 clear ei
 have hnm := Qdi h6
 have H6 := hide (Ya ha6 (Ya hy6 k6))
 clear ha6 hy6 h6 k6
 go_wp2_with fail
 refine hnm.mono ?_
 clear hnm
 rintro en w7 ⟨_, a7, i7, y7, f7, rfl, ⟨x7, rfl⟩, ⟨ei, ha7, hy7⟩, h7, k7⟩
 rw [ei] at h7
 clear ei
 obtain ⟨ha4, hy4, k4, b5, n5, hkb⟩ := Qa H4
 obtain ⟨ha6, hy6, k6⟩ := Qa H6
 obtain ⟨hq, hX, kX, haX, hyX, hzX, hA1⟩ := Qa XF
 have hs4 := k4.size
 have hsX := kX.size
 have hs5 := b5.size
 have hs6 := k6.size
 have hs7 := k7.size
 rw [hkb] at n5
 have hkr : kb ≠ rb := by have := (Qa HRB).1; omega
 have hkg : kb ≠ g := by have := (Qa HRB).2; omega
 have n7 : w7.heap[kb]? = some (.cells #[str x4, .string ⟨#[]⟩] 103 (0, 0)) := k7.keep (k6.keep n5 hkr) hkr
 obtain ⟨w8, hw8⟩ : ∃ w8, w8 = w7.setCell ⟨kb, 1, none⟩ (str x7) := ⟨_, rfl⟩
 have n8 : w8.heap[kb]? = some (.cells #[str x4, str x7] 103 (0, 0)) := by rw [hw8]; exact (Qah n7 1 _).trans rfl
 have s8 : w8.heap.size = w7.heap.size := by rw [hw8]; simp
 have o8 : ∀ q, q ≠ kb → w8.heap[q]? = w7.heap[q]? := fun q hq => by rw [hw8]; exact hpS hq
 have h8 := h7.move (w' := w8) (by omega) (o8 rb hkr.symm) (o8 g hkg.symm)
 have kX8 : Kp rb WX w8 := by
  have kk := ((k4.trans (Kp.of_below b5)).trans k6).trans k7
  refine ⟨by rw [hw8]; exact kk.os, by rw [hw8]; exact kk.tape, by rw [hw8]; exact kk.output, by rw [s8]; exact kk.size, fun q hq hn => (o8 q (by omega)).trans (kk.block q hq hn)⟩
 obtain ⟨i0, hi, hz, hsz, hby⟩ := infoF
 obtain ⟨r, wz, hrun, kpz, rdz, hown⟩ := hq.more Qaz (by kernel_rfl : Try.prog.underlying 41 = some (.slice 103)) hi hz hsz hby rfl (by decide) (by decide) kX (x := ⟨x4, x7⟩) (cs := [str x4, str x7]) rfl (by simp [Value.oneCell', str]) rfl h8 kX8 (Qa HRB).1 (Qa HRB).2 (by have := hX.lt; have := hX.few; omega)
 obtain ⟨ra, rc, er, hr1, hr2⟩ := hown.sl
 subst er
 rw [hw8] at hrun
 rw [show (w7.setCell ⟨kb, 1, none⟩ (str x7)).heap.size = w7.heap.size by simp] at hrun
 have HRUN := hide hrun
 obtain ⟨x_0, x_1, xf⟩ := cl2 n7
 obtain ⟨z_0, z_1, zf⟩ := cl2 n8
 rw [hw8] at z_0 z_1
 have hlf := Qai (Qa HI).2.1 l.length
 have hlz := Qai rdz l.length
 have HE := hide (Ya hown (Ya rdz (Ya kpz (Ya hr1 (Ya hr2 (Ya ha4 (Ya hy4 (Ya ha6 (Ya hy6 (Ya ha7 (Ya hy7 (Ya haX (Ya hyX (Ya hlf (Ya hlz (Ya hX (Ya hzX hA1)))))))))))))))))
 clear ha4 hy4 k4 b5 n5 hkb ha6 hy6 k6 h7 k7 hq hX kX haX hyX hzX hA1 hs4 hsX hs5 hs6 hs7 hkr hkg n7 hw8 n8 s8 o8 h8 kX8 hi hz hsz hby hrun kpz rdz hown hr1 hr2 zf hlf hlz ha7 hy7
 go_wp2_with (at_builtin; refine Qaj _ rfl _ _ 41 rfl _ _ rfl rfl _ _ (Qa HRUN) ?_; clear HRUN)
 go_roundw
 case rel =>
  obtain ⟨hown, rdz, kpz, hr1, hr2, ha4, hy4, ha6, hy6, ha7, hy7, haX, hyX, hlf, hlz, hX, hzX, hA1⟩ := Qa HE
  refine ⟨acc ++ [⟨x4, x7⟩], _, _, _, false, ra, rc, by simp, rfl, hr1, hr2, hide ⟨by simpa only [List.length_append, List.length_singleton] using hown, rdz, kpz, by rw [List.length_append, List.length_singleton]; omega, by omega, fun e => by
   have e7 := hy7 e
   have e6 := hy6 e7.1
   have e4 := hy4 e6.1
   exact ⟨hyX e4.1, by omega, by rw [List.length_append, List.length_singleton]; omega⟩⟩⟩
 obtain ⟨hown, rdz, kpz, hr1, hr2, ha4, hy4, ha6, hy6, ha7, hy7, haX, hyX, hlf, hlz, hX, hzX, hA1⟩ := Qa HE
 have := hX.lt
 have hlt := (Qa HI).2.1.lt
 rw [hlf, hlz, if_pos (Qa HY)]
 split
 ·
  rename_i e
  have e7 := hy7 e
  have e6 := hy6 e7.1
  have e4 := hy4 e6.1
  have := rdz.lt
  omega
 · omega
end
section
open Go.RowKit Go.Maps
def exV (w : World) (w' : World) (v : Value) : Prop := ∃ x : Ex, VE (fun b => w.heap.size ≤ b) w' v x
def ExC (F rb g cap : Nat) (l : List Tok) (d : Nat) (args : Array Value) : Prop := ∀ (w : World) (a i : Nat) (y f : Int), Rr rb g cap l w a d i y f → Calls Try.prog F args w fun en w' => RA rb g cap l w d (exV w) (CoY a i y) en w'
def esV (w : World) (w' : World) (v : Value) : Prop := ∃ xs : List Ex, LsAt PE 5 (fun b => w.heap.size ≤ b) w' v xs
theorem Qir {rb g cap a d i : Nat} {l : List Tok} {w : World} {y f : Int} (h : Rr rb g cap l w a d i y f) (hE : ExC 116 rb g cap l d #[.pointer (some ⟨rb, 0, none⟩)]) :
  Calls Try.prog 115 #[.pointer (some ⟨rb, 0, none⟩)] w fun en w' => RA rb g cap l w d (esV w) (CoY a i y) en w' := by
 have hms := Qbd h ⟨#[40]⟩
 have HEX := hide hE
 have HRB := hide (Ya (Qab h.box) h.row.lt)
 clear h hE
 go_enter Try.func115, Try.ntmps115
 go_wp2_with fail
 refine hms.mono ?_
 clear hms
 rintro en w1 ⟨_, a0, i0, y0, f0, rfl, rfl, ⟨ei, ha0, hy0⟩, h0, k0⟩
 rw [ei] at h0
 clear ei
 have H0 := hide (Ya ha0 (Ya hy0 (Ya h0 k0)))
 clear ha0 hy0 h0 k0
 go_wp2_with fail
 go_loopw [3, 4] (fun sl fb wr => ∃ (acc : List Ex) (a1 : Nat) (y1 f1 : Int) (fst : Bool) (sa : Option Addr) (sc : Nat), sl = .slice sa acc.length sc ∧ fb = .bool fst ∧ acc.length ≤ sc ∧ sc ≤ maxLen ∧ Hid (Qown PE 5 126 w wr sl acc ∧ Rr rb g cap l wr a1 d i y1 f1 ∧ Kp rb w wr ∧ acc.length ≤ a1 + 1 ∧ a ≤ a1 ∧ (y1 = 0 → y = 0 ∧ a < a1 ∧ acc.length ≤ a1))) (fun _ _ wr => leftR rb l.length wr)
 case atStart =>
  obtain ⟨ha0, hy0, h0, k0⟩ := Qa H0
  exact ⟨[], a0, y0, f0, true, none, 0, rfl, rfl, Nat.le_refl _, by unfold maxLen; omega, hide ⟨Qown.nil _ _, h0, k0, Nat.zero_le _, ha0, fun e => ⟨(hy0 e).1, (hy0 e).2, Nat.zero_le _⟩⟩⟩
 obtain ⟨acc, a1, y1, f1, fst, sa, sc, rfl, rfl, hc1, hc2, HI⟩ := hrel
 unfold maxLen at hc2
 clear H0
 go_upto_region 4 with fail
 go_cut [24] from 7 to 34 (fun c wc => ∃ (b : Bool) (aX : Nat) (fX : Int), c = .bool b ∧ Hid (Qown PE 5 126 w wc (.slice sa acc.length sc) acc ∧ Rr rb g cap l wc aX d i y1 fX ∧ Kp rb w wc ∧ acc.length ≤ aX + 1 ∧ (y1 = 0 → y = 0) ∧ a ≤ aX ∧ a1 ≤ aX ∧ (b = true → y1 = 0 ∧ acc.length ≤ aX)))
 case first =>
  have hwl := Qao (Qa HI).2.1
  by_cases hy : y1 = 0
  ·
   rw [decide_eq_true hy] at hwl
   have HY := hide hy
   clear hy
   have hI := (Qa HI).2.2.2.2
   have hI2 := hI.2 (Qa HY)
   have hI3 := hide (Ya hI hI2)
   clear hI hI2
   cases fst
   ·
    have hmy := Qb (Qa HI).2.1 ⟨#[44]⟩
    go_wp2_with fail
    refine hwl.mono ?_
    clear hwl
    rintro en wq ⟨rfl, rfl⟩
    go_wp2_with fail
    refine hmy.mono ?_
    clear hmy
    rintro en WX ⟨b, a2, f2, rfl, hb1, hb0, h2, k2⟩
    have e2 : a1 ≤ a2 := by
     cases b with
     | true => have := (hb1 rfl).2; omega
     | false => have := hb0 rfl; omega
    have X2 := hide (Ya ((Qa HI).1.kp Qae k2 (Qa HRB).1) (Ya h2 (Ya ((Qa HI).2.2.1.trans k2) e2)))
    clear hb1 hb0 h2 k2 e2
    cases b
    ·
     go_wp2_with fail
     go_meet
     obtain ⟨h1, h2, h3, e2⟩ := Qa X2
     obtain ⟨hI, hI2⟩ := Qa hI3
     exact ⟨false, a2, f2, rfl, hide ⟨h1, h2, h3, by omega, fun e => (hI.2 e).1, by omega, e2, fun e => by cases e⟩⟩
    go_wp2_with fail
    go_meet
    obtain ⟨h1, h2, h3, e2⟩ := Qa X2
    obtain ⟨hI, hI2⟩ := Qa hI3
    exact ⟨true, a2, f2, rfl, hide ⟨h1, h2, h3, by omega, fun e => (hI.2 e).1, by omega, e2, fun _ => ⟨Qa HY, by omega⟩⟩⟩
   have hsg := Qby (Qa HI).2.1 ⟨#[41]⟩
   go_wp2_with fail
   refine hwl.mono ?_
   clear hwl
   rintro en wq ⟨rfl, rfl⟩
   go_wp2_with fail
   refine hsg.mono ?_
   clear hsg
   rintro en WX ⟨b, rfl, hb, b2⟩
   have X2 := hide (Ya ((Qa HI).1.kp Qae (Kp.of_below (rb := rb) b2) (Qa HRB).1) (Ya ((Qa HI).2.1.later b2) ((Qa HI).2.2.1.trans (Kp.of_below b2))))
   clear hb b2
   cases b
   ·
    go_wp2_with fail
    go_meet
    obtain ⟨h1, h2, h3⟩ := Qa X2
    obtain ⟨hI, hI2⟩ := Qa hI3
    exact ⟨true, a1, f1, rfl, hide ⟨h1, h2, h3, by omega, fun e => (hI.2 e).1, hI.1, Nat.le_refl _, fun _ => ⟨Qa HY, by omega⟩⟩⟩
   go_wp2_with fail
   go_meet
   obtain ⟨h1, h2, h3⟩ := Qa X2
   obtain ⟨hI, hI2⟩ := Qa hI3
   exact ⟨false, a1, f1, rfl, hide ⟨h1, h2, h3, by omega, fun e => (hI.2 e).1, hI.1, Nat.le_refl _, fun e => by cases e⟩⟩
  rw [decide_eq_false hy] at hwl
  have HY := hide hy
  clear hy
  go_wp2_with fail
  refine hwl.mono ?_
  clear hwl
  rintro en wq ⟨rfl, rfl⟩
  go_wp2_with fail
  go_meet
  exact ⟨false, a1, f1, rfl, hide ⟨(Qa HI).1, (Qa HI).2.1, (Qa HI).2.2.1, (Qa HI).2.2.2.1, fun e => absurd e (Qa HY), (Qa HI).2.2.2.2.1, Nat.le_refl _, fun e => by cases e⟩⟩
 obtain ⟨b, aX, fX, rfl, X0⟩ := hcut
 cases b
 ·
  have X2 := hide (Ya (Qa X0).1 (Ya (Qa X0).2.1 (Ya (Qa X0).2.2.1 (Ya (Qa X0).2.2.2.1 (Ya (Qa X0).2.2.2.2.1 (Qa X0).2.2.2.2.2)))))
  have hms := Qbd (Qa X2).2.1 ⟨#[41]⟩
  go_wp2_with fail
  refine hms.mono ?_
  clear hms
  rintro en w9 ⟨_, a9, i9, y9, f9, rfl, rfl, ⟨ei, ha9, hy9⟩, h9, k9⟩
  rw [ei] at h9
  clear ei
  have HZ := hide (Ya ha9 (Ya hy9 (Ya h9 k9)))
  clear ha9 hy9 h9 k9
  go_wp2_with fail
  go_ret
  obtain ⟨ha9, hy9, h9, k9⟩ := Qa HZ
  obtain ⟨hq, h2, k2, ha2, hy2, ha3, _⟩ := Qa X2
  exact ⟨_, _, _, _, _, rfl, ⟨acc, (hq.kp Qae k9 (Qa HRB).1).ls Qae⟩, ⟨rfl, by omega, fun e => ⟨hy2 (hy9 e).1, by have := (hy9 e).2; omega⟩⟩, h9, k2.trans k9⟩
 have HY := hide ((Qa X0).2.2.2.2.2.2.2 rfl).1
 have X2 := hide (Ya (Qa X0).1 (Ya (Qa X0).2.1 (Ya (Qa X0).2.2.1 (Ya ((Qa X0).2.2.2.2.2.2.2 rfl).2 (Ya (Qa X0).2.2.2.2.1 (Ya (Qa X0).2.2.2.2.2.1 (Qa X0).2.2.2.2.2.2.1))))))
 clear X0
 go_upto_if 27 with fail
 go_cut [] from 7 to 34 (fun WX => ∃ (yF fF : Int), Hid (Qown PE 5 126 w WX (.slice sa acc.length sc) acc ∧ Rr rb g cap l WX aX d i yF fF ∧ Kp rb w WX ∧ acc.length ≤ aX ∧ (yF = 0 → y = 0) ∧ a ≤ aX ∧ a1 ≤ aX))
 case first =>
  by_cases h8 : 8 ≤ acc.length
  ·
   have g8 : (8 : Int) ≤ (acc.length : Int) := by omega
   have hfl := Qax (Qa X2).2.1 (why := 3) (by decide)
   clear h8
   go_wp2_with fail
   refine hfl.mono ?_
   clear hfl
   rintro en wf ⟨_, a3, i3, y3, f3, rfl, rfl, ⟨ea, ei, hY3⟩, h3, k3⟩
   rw [ea, ei] at h3
   clear ea ei
   have XF := hide (Ya ((Qa X2).1.kp Qae k3 (Qa HRB).1) (Ya h3 (Ya ((Qa X2).2.2.1.trans k3) (Ya (Qa X2).2.2.2.1 (Ya (show y3 = 0 → y = 0 from fun e => absurd e hY3) (Qa X2).2.2.2.2.2)))))
   clear h3 k3 hY3
   go_wp2_with fail
   go_meet
   exact ⟨_, _, XF⟩
  have g8 : ¬ ((8 : Int) ≤ (acc.length : Int)) := by omega
  clear h8
  go_wp2_with fail
  go_meet
  exact ⟨_, _, X2⟩
 obtain ⟨yF, fF, XF⟩ := hcut
 obtain ⟨WX, hWX⟩ : ∃ WX, WX = wc := ⟨_, rfl⟩
 subst hWX
 clear X2
 have hex := Qa HEX _ _ _ _ _ (Qa XF).2.1
 go_wp2_with fail
 refine hex.mono ?_
 clear hex
 rintro en w7 ⟨_, a7, i7, y7, f7, rfl, ⟨x7, _, rfl, ⟨ka, kn, kc, rfl⟩, hx7⟩, ⟨ei, ha7, hy7⟩, h7, k7⟩
 rw [ei] at h7
 clear ei
 obtain ⟨hq, hX, kX, haX, hyX, hzX, hA1⟩ := Qa XF
 obtain ⟨i0, hi, hz, hsz, hby⟩ := infoE
 obtain ⟨r, wz, hrun, kpz, rdz, hown⟩ := hq.more Qae (by kernel_rfl : Try.prog.underlying 73 = some (.slice 126)) hi hz hsz hby rfl (by decide) (by decide) kX (x := x7) (cs := [.int .i64 x7.kind, .int .i64 x7.num, str x7.txt, .slice ka kn kc, .int .i64 x7.at_]) rfl (by simp [Value.oneCell', str]) hx7 h7 k7 (Qa HRB).1 (Qa HRB).2 (by have := hX.lt; have := hX.few; omega)
 obtain ⟨ra, rc, er, hr1, hr2⟩ := hown.sl
 subst er
 have HRUN := hide hrun
 have hlf := Qai (Qa HI).2.1 l.length
 have hlz := Qai rdz l.length
 have HE := hide (Ya hown (Ya rdz (Ya kpz (Ya hr1 (Ya hr2 (Ya ha7 (Ya hy7 (Ya haX (Ya hyX (Ya hlf (Ya hlz (Ya hX (Ya hzX hA1)))))))))))))
 clear hx7 h7 k7 hq hX kX haX hyX hzX hA1 hi hz hsz hby hrun kpz rdz hown hr1 hr2 hlf hlz ha7 hy7
 go_wp2_with (at_builtin; refine Qaj _ rfl _ _ 73 rfl _ _ rfl rfl _ _ (Qa HRUN) ?_; clear HRUN)
 go_roundw
 case rel =>
  obtain ⟨hown, rdz, kpz, hr1, hr2, ha7, hy7, haX, hyX, hlf, hlz, hX, hzX, hA1⟩ := Qa HE
  exact ⟨acc ++ [x7], _, _, _, false, ra, rc, by simp, rfl, hr1, hr2, hide ⟨by simpa only [List.length_append, List.length_singleton] using hown, rdz, kpz, by rw [List.length_append, List.length_singleton]; omega, by omega, fun e => by
   have e7 := hy7 e
   exact ⟨hyX e7.1, by omega, by rw [List.length_append, List.length_singleton]; omega⟩⟩⟩
 obtain ⟨hown, rdz, kpz, hr1, hr2, ha7, hy7, haX, hyX, hlf, hlz, hX, hzX, hA1⟩ := Qa HE
 have := hX.lt
 have hlt := (Qa HI).2.1.lt
 rw [hlf, hlz, if_pos (Qa HY)]
 split
 ·
  rename_i e
  have e7 := hy7 e
  have := rdz.lt
  omega
 · omega
end
end Go.Proofs.Ytfmbpaoapjmdnaa
