/- The document's reader: row, where factor is told. -/
import Derived.Test.YtfmbpaoapjmdnaaQb11
set_option maxRecDepth 100000
set_option maxHeartbeats 32000000
namespace Go.Proofs.Ytfmbpaoapjmdnaa
section
open Go.RowKit Go.Maps
attribute [local go_sem ↓] Qbk Qbw
def RwI (rb g cap : Nat) (l : List Tok) (w : World) (d i a : Nat) (y : Int) (ne ns : Nat) (sg : List Txt) (wr : World) (aX : Nat) (yX fX : Int) (xX : Ex) (ka : Option Addr) (kn kc : Nat) : Prop := Rr rb g cap l wr aX d i yX fX ∧ Kp rb w wr ∧ wr.heap[ne]? = some (.cells #[.int .i64 xX.kind, .int .i64 xX.num, str xX.txt, .slice ka kn kc, .int .i64 xX.at_] 126 (0, 0)) ∧ wr.heap[w.heap.size]? = some (.cells #[.int .i64 0, .int .i64 0, .string ⟨#[]⟩, .slice none 0 0, .int .i64 0] 126 (0, 0)) ∧ ExS (fun b => w.heap.size < b ∧ b ≠ ne) wr [.int .i64 xX.kind, .int .i64 xX.num, str xX.txt, .slice ka kn kc, .int .i64 xX.at_] xX ∧ (∀ (j : Nat) (t : Txt), sg[j]? = some t → wr.cell? ⟨ns, j, none⟩ = some (str t)) ∧ a ≤ aX ∧ (yX = 0 → y = 0 ∧ a < aX)
theorem RwI.later {rb g cap : Nat} {l : List Tok} {w : World} {d i a : Nat} {y : Int} {ne ns : Nat} {sg : List Txt} {wr wr2 : World} {aX : Nat} {yX fX : Int} {xX : Ex} {ka : Option Addr} {kn kc : Nat} (h : RwI rb g cap l w d i a y ne ns sg wr aX yX fX xX ka kn kc) (hn : ns < ne) (b : Below wr.heap.size wr wr2) : RwI rb g cap l w d i a y ne ns sg wr2 aX yX fX xX ka kn kc := by
 obtain ⟨h1, h2, h3, h4, h5, h6, h7, h8⟩ := h
 have hl := Qab h3
 exact ⟨h1.later b, h2.trans (Kp.of_below b), (b.block _ hl).trans h3, (b.block _ (Qab h4)).trans h4, Qae.same _ _ _ _ _ h5 b.size (fun q _ hq => b.block q hq), fun j t hj => (b.cell (p := ⟨ns, j, none⟩) (by show ns < wr.heap.size; omega)).trans (h6 j t hj), h7, h8⟩
theorem Qq {rb g cap d : Nat} {l : List Tok} (hR : ExC 127 rb g cap l d #[.pointer (some ⟨rb, 0, none⟩), .int .i64 1]) : ExC 127 rb g cap l d #[.pointer (some ⟨rb, 0, none⟩), .int .i64 0] := fun w a i y f h => by
 obtain ⟨W1, hW1⟩ : ∃ W1, W1 = (w.alloc (.cells #[.int .i64 0, .int .i64 0, .string ⟨#[]⟩, .slice none 0 0, .int .i64 0] 126)).alloc (.cells #[.string ⟨#[43]⟩, .string ⟨#[45]⟩] 9) := ⟨_, rfl⟩
 have b1 : Below w.heap.size w W1 := by rw [hW1]; exact (((Below.refl _ w).alloc (Nat.le_refl _) _).alloc (by simp) _)
 have n1 : W1.heap[w.heap.size]? = some (.cells #[.int .i64 0, .int .i64 0, .string ⟨#[]⟩, .slice none 0 0, .int .i64 0] 126 (0, 0)) := by rw [hW1, Below.heap_alloc _ _ _ (by simp)]; exact heap_alloc_new w _
 have g1 : W1.heap[w.heap.size + 1]? = some (.cells #[.string ⟨#[43]⟩, .string ⟨#[45]⟩] 9) := by
  rw [hW1]
  have := heap_alloc_new (w.alloc (.cells #[.int .i64 0, .int .i64 0, .string ⟨#[]⟩, .slice none 0 0, .int .i64 0] 126)) (.cells #[.string ⟨#[43]⟩, .string ⟨#[45]⟩] 9)
  rwa [show (w.alloc (.cells #[.int .i64 0, .int .i64 0, .string ⟨#[]⟩, .slice none 0 0, .int .i64 0] 126)).heap.size = w.heap.size + 1 by simp] at this
 have s1 : W1.heap.size = w.heap.size + 1 + 1 := by rw [hW1]; simp
 obtain ⟨ns, hns⟩ : ∃ ns, ns = w.heap.size + 1 := ⟨_, rfl⟩
 rw [← hns] at g1
 obtain ⟨sg, hsg⟩ : ∃ sg : List Txt, sg = [[43], [45]] := ⟨_, rfl⟩
 have q1 : ∀ (j : Nat) (t : Txt), sg[j]? = some t → W1.cell? ⟨ns, j, none⟩ = some (str t) := fun j t hj => by
  rw [Qaf g1]
  rw [hsg] at hj
  match j, hj with
  | 0, hj => cases hj; rfl
  | 1, hj => cases hj; rfl
  | j + 2, hj => simp at hj
 have hcl := hR W1 a i y f (h.later b1)
 have hrl := Qab h.box
 have hgl := h.row.lt
 have HRL := hide (Ya hrl hgl)
 have HRC := hide hR
 have H1 := hide (Ya b1 (Ya n1 (Ya q1 (Ya s1 (Ya hns g1)))))
 have HW1 := hide hW1
 have HSG := hide (show sg.length = 2 by rw [hsg]; rfl)
 clear hW1 b1 n1 g1 s1 hsg q1 h hR hns
 go_enter Try.func127, Try.ntmps127
 go_wp2_with fail
 rw [← Qa HW1]
 clear HW1
 refine hcl.mono ?_
 clear hcl
 rintro en w1 ⟨_, a1, i1, y1, f1, rfl, ⟨x1, _, rfl, ⟨ka, kn, kc, rfl⟩, hx1⟩, ⟨ei, ha1, hy1⟩, h1, k1⟩
 rw [ei] at h1
 clear ei
 obtain ⟨b1, n1, q1, s1, hns, g1⟩ := Qa H1
 have hs1 := k1.size
 obtain ⟨ne, hne⟩ : ∃ ne, w1.heap.size = ne := ⟨_, rfl⟩
 obtain ⟨W2, hW2⟩ : ∃ W2, W2 = w1.alloc (.cells #[.int .i64 x1.kind, .int .i64 x1.num, str x1.txt, .slice ka kn kc, .int .i64 x1.at_] 126) := ⟨_, rfl⟩
 have b2 : Below w1.heap.size w1 W2 := by rw [hW2]; exact (Below.refl _ w1).alloc (Nat.le_refl _) _
 have m2 : W2.heap[ne]? = some (.cells #[.int .i64 x1.kind, .int .i64 x1.num, str x1.txt, .slice ka kn kc, .int .i64 x1.at_] 126 (0, 0)) := by rw [hW2, ← hne]; exact heap_alloc_new w1 _
 have z2 : W2.heap[w.heap.size]? = some (.cells #[.int .i64 0, .int .i64 0, .string ⟨#[]⟩, .slice none 0 0, .int .i64 0] 126 (0, 0)) := (b2.block _ (by omega)).trans (k1.keep n1 (by omega))
 have gg2 : W2.heap[ns]? = some (.cells #[.string ⟨#[43]⟩, .string ⟨#[45]⟩] 9) := (b2.block _ (by omega)).trans (k1.keep g1 (by omega))
 have q2 : ∀ (j : Nat) (t : Txt), sg[j]? = some t → W2.cell? ⟨ns, j, none⟩ = some (str t) := fun j t hj => by
  have := q1 j t hj
  rw [Qaf g1] at this
  rw [Qaf gg2]
  exact this
 have hx2 : ExS (fun b => w.heap.size < b ∧ b ≠ ne) W2 [.int .i64 x1.kind, .int .i64 x1.num, str x1.txt, .slice ka kn kc, .int .i64 x1.at_] x1 := Qae.mono _ _ _ _ _ (Qae.same _ _ W2 _ _ (Qae.mono _ (fun b => W1.heap.size ≤ b ∧ b < w1.heap.size) _ _ _ hx1 (fun b hl hb => ⟨hb, hl⟩)) b2.size (fun b _ hl => b2.block b hl)) (fun b _ hb => ⟨by omega, by omega⟩)
 have HST : Hid (RwI rb g cap l w d i a y ne ns sg W2 a1 y1 f1 x1 ka kn kc) := ⟨h1.later b2, ((Kp.of_below b1).trans k1).trans (Kp.of_below b2), m2, z2, hx2, q2, ha1, hy1⟩
 have HNE := hide (show rb < ne ∧ g < ne ∧ w.heap.size < ne by omega)
 have HNS := hide (show ns < ne by omega)
 have HNR := hide (show w.heap.size < ns by omega)
 have N2 := Qdv w1 (c0 := .int .i64 x1.kind) (c1 := .int .i64 x1.num) (c2 := str x1.txt) (c3 := .slice ka kn kc) (c4 := .int .i64 x1.at_) (by simp [Value.oneCell', str])
 have HN2 := hide (Ya hW2 hne)
 rw [← hW2] at N2
 clear hW2 b2 m2 z2 gg2 q2 hx2 b1 n1 q1 s1 g1 hs1 hne h1 k1 hx1 ha1 hy1 hns
 go_wp2_with fail
 rw [(Qa HN2).2, ← (Qa H1).2.2.2.2.1]
 clear HN2 N2 H1
 go_loopw [7, 9] (fun _ _ wr => ∃ (aX : Nat) (yX fX : Int) (xX : Ex) (ka : Option Addr) (kn kc : Nat), Hid (RwI rb g cap l w d i a y ne ns sg wr aX yX fX xX ka kn kc)) (fun _ _ wr => leftR rb l.length wr)
 case atStart => exact ⟨_, _, _, _, _, _, _, HST⟩
 obtain ⟨aX, yX, fX, xX, ka, kn, kc, HI⟩ := hrel
 clear HST
 obtain ⟨WX, hWX⟩ : ∃ WX, WX = wr := ⟨_, rfl⟩
 have hwl := Qao (Qa HI).1
 by_cases hy : yX = 0
 ·
  rw [decide_eq_true hy] at hwl
  have HY := hide hy
  clear hy
  clear hWX WX
  go_wp2_with fail
  refine hwl.mono ?_
  clear hwl
  rintro en wq ⟨rfl, rfl⟩
  go_wp2_with fail
  go_loopw [7, 9, 26] (fun v7 _ v26 wr2 => ∃ (ot : Txt) (j : Nat), v7 = str ot ∧ v26 = .int .i64 (j : Int) ∧ j ≤ 2 ∧ Hid (Below wq.heap.size wq wr2 ∧ (ot ≠ [] → yX = 0 ∧ aX + 1 < l.length))) (fun _ _ v26 _ => 2 - (intOf v26).toNat)
  case atStart => exact ⟨[], 0, rfl, rfl, Nat.zero_le _, hide ⟨Below.refl _ _, fun h => absurd rfl h⟩⟩
  obtain ⟨ot, j, rfl, rfl, hj, HJ⟩ := hrel
  by_cases hlt : j < 2
  ·
   obtain ⟨st, hst⟩ : ∃ st, sg[j]? = some st := ⟨sg[j]'(by rw [Qa HSG]; exact hlt), List.getElem?_eq_getElem _⟩
   have c1 := ((Qa HJ).1.cell (p := ⟨ns, j, none⟩) (by show ns < wq.heap.size; have := Qab (Qa HI).2.2.1; have := Qa HNS; omega)).trans ((Qa HI).2.2.2.2.2.1 j st hst)
   have hsn := Qby ((Qa HI).1.later (Qa HJ).1) ⟨st.toArray⟩
   rw [show (Value.string ⟨st.toArray⟩) = str st from rfl] at hsn
   clear hst
   go_wp2_with fail
   refine hsn.mono ?_
   clear hsn
   rintro en w4 ⟨b, rfl, hb, b4⟩
   have HB4 := hide (Ya hb ((Qa HJ).1.trans (b4.mono (Qa HJ).1.size)))
   clear hb b4 c1
   cases b
   ·
    go_wp2_with fail
    go_roundw
    case rel => exact ⟨ot, j + 1, rfl, by go_num, by omega, hide ⟨(Qa HB4).2, (Qa HJ).2⟩⟩
    case measure => simp [intOf]; omega
   go_wp2_with fail
   go_roundw
   case rel => exact ⟨st, j + 1, rfl, by go_num, by omega, hide ⟨(Qa HB4).2, fun _ => (Qa HB4).1 (by trivial)⟩⟩
   case measure => simp [intOf]; omega
  have HI3 : Hid (RwI rb g cap l w d i a y ne ns sg wr aX yX fX xX ka kn kc) := (Qa HI).later (Qa HNS) (Qa HJ).1
  by_cases ho : ot = []
  ·
   have go1 : (ot == []) = true := by simpa using ho
   obtain ⟨WX, hWX⟩ : ∃ WX, WX = wr := ⟨_, rfl⟩
   rw [← hWX] at HI3
   rw [← hWX]
   clear ho hWX HJ
   obtain ⟨h4, k4, m4, z4, hx4, hsg4, ha4, hY4⟩ := Qa HI3
   have L5 := Qcf m4
   have S5 := Qbc (new := #[.int .i64 xX.kind, .int .i64 xX.num, str xX.txt, .slice ka kn kc, .int .i64 xX.at_]) z4 rfl rfl (by simp [Value.oneCell', str])
   obtain ⟨w6, hw6⟩ : ∃ w6, w6 = WX.setRow w.heap.size #[.int .i64 xX.kind, .int .i64 xX.num, str xX.txt, .slice ka kn kc, .int .i64 xX.at_] := ⟨_, rfl⟩
   rw [← hw6] at S5
   have o6 : ∀ q, q ≠ w.heap.size → w6.heap[q]? = WX.heap[q]? := fun q hq => by rw [hw6]; exact setRow_other _ _ _ _ hq
   have s6 : w6.heap.size = WX.heap.size := by rw [hw6, size_setRow]
   have z6 : w6.heap[w.heap.size]? = some (.cells #[.int .i64 xX.kind, .int .i64 xX.num, str xX.txt, .slice ka kn kc, .int .i64 xX.at_] 126 (0, 0)) := by rw [hw6]; exact setRow_heap _ _ _ _ _ _ z4
   have h6 := h4.move (w' := w6) (by omega) (o6 rb (by have := Qa HRL; omega)) (o6 g (by have := Qa HRL; omega))
   have k6 : Kp rb w w6 := ⟨by rw [hw6]; exact k4.os, by rw [hw6]; exact k4.tape, by rw [hw6]; exact k4.output, by rw [s6]; exact k4.size, fun q hq hn => (o6 q (by omega)).trans (k4.block q hq hn)⟩
   have hx6 : ExS (fun b => w.heap.size ≤ b) w6 [.int .i64 xX.kind, .int .i64 xX.num, str xX.txt, .slice ka kn kc, .int .i64 xX.at_] xX := by
    have q1 := Qae.same _ _ w6 _ _ hx4 (by omega) (fun b hb hl => o6 b (by have := hb.1; omega))
    exact Qae.mono _ _ _ _ _ q1 (fun b _ hb => by have := hb.1; omega)
   have HF := hide (Ya h6 (Ya k6 (Ya z6 (Ya hx6 (Ya ha4 hY4)))))
   clear h4 k4 m4 z4 hx4 hsg4 ha4 hY4 o6 s6 z6 h6 k6 hx6 hw6
   go_wp2_with fail
   obtain ⟨h6, k6, z6, hx6, ha4, hY4⟩ := Qa HF
   obtain ⟨z_0, z_1, z_2, z_3, z_4, zf⟩ := ex5 z6
   refine bodyPost_ret (v := .agg #[.int .i64 xX.kind, .int .i64 xX.num, str xX.txt, .slice ka kn kc, .int .i64 xX.at_]) (by simp [results, Try.results127, go_sem, z_0, z_1, z_2, z_3, z_4]) rfl ?_
   exact ⟨_, _, _, _, _, rfl, ⟨xX, _, rfl, ⟨_, _, _, rfl⟩, hx6⟩, ⟨rfl, ha4, hY4⟩, h6, k6⟩
  have go1 : (ot == []) = false := by simpa using ho
  have HO := hide ((Qa HJ).2 ho)
  clear ho HJ
  obtain ⟨hI1, hI2, hI3, hI4, hI5, hI6, hI7, hI8⟩ := Qa HI3
  obtain ⟨t, ht⟩ := hI1.tok
  have htk := Qau hI1 ht
  clear hI1 hI2 hI3 hI4 hI5 hI6 hI7 hI8 ht
  go_wp2_with fail
  refine htk.mono ?_
  clear htk
  rintro en w5 ⟨_, a5, i5, y5, f5, rfl, rfl, ⟨ei, ey, hY5⟩, h5, k5⟩
  rw [ei, ey] at h5
  clear ei ey
  obtain ⟨hI1, hI2, hI3, hI4, hI5, hI6, hI7, hI8⟩ := Qa HI3
  obtain ⟨o1, o2⟩ := Qa HO
  have e5 : a5 = aX + 1 := by
   rcases hY5 with ⟨_, _, e⟩ | ⟨_, hn⟩
   · exact e
   · exact absurd o2 (hn o1)
  have hne := Qa HNE
  have m5 := k5.keep hI3 (by omega)
  have hr5 := Qa HRC w5.drew a5 i yX f5 (h5.later (Below.refl _ w5).drew)
  have HC : Hid (∀ w', Kp rb w5 w' → w'.heap[ne]? = some (.cells #[.int .i64 xX.kind, .int .i64 xX.num, str xX.txt, .slice ka kn kc, .int .i64 xX.at_] 126 (0, 0))) := fun w' kk => kk.keep m5 (by omega)
  have H5 := hide (Ya e5 (Ya h5 (Ya k5 m5)))
  clear hY5 h5 k5 hI1 hI2 hI3 hI4 hI5 hI6 hI7 hI8 o1 o2 e5 hne m5
  go_wp2_with fail
  refine Qam (m := 10) (ml := [(0, 1), (1, 1), (2, 2), (3, 2), (4, 1), (5, 1), (6, 1), (7, 0), (8, 0), (9, 1), (10, 0)]) (fun ff w' => ff = false → w'.heap[ne]? = some (.cells #[.int .i64 xX.kind, .int .i64 xX.num, str xX.txt, .slice ka kn kc, .int .i64 xX.at_] 126 (0, 0))) mixedO (by kernel_rfl) rfl (by rfl) (by kernel_rfl) (fun PP hPP => ?_)
  iterate 2 (refine mF (v := ?_) (fun f w' hw => ?_) ?_; rotate_left; · (go_simp <;> rfl))
  iterate 2 (refine Qaq (v := ?_) rfl (by kernel_rfl) (fun w' hw => ?_) ?_; rotate_left; · (have L := Qcf (hw rfl); obtain ⟨x_0, x_1, x_2, x_3, x_4, xf⟩ := ex5 (hw rfl); go_simp <;> rfl))
  iterate 3 (refine mF (v := ?_) (fun f w' hw => ?_) ?_; rotate_left; · (go_simp <;> rfl))
  refine Qaa rfl (fun _ => Qa HC _ (Kp.of_below (Below.refl _ w5).drew)) (fun K hK => ?_)
  go_simp
  refine hr5.mono ?_
  clear hr5
  rintro en w6 ⟨_, a6, i6, y6, f6, rfl, ⟨x2, _, rfl, ⟨ea, en2, ec, rfl⟩, hx2⟩, ⟨ei, ha6, hy6⟩, h6, k6⟩
  rw [ei] at h6
  clear ei
  show K _ _
  refine hK _ _ ?_
  clear hK K
  obtain ⟨e5, h5, k5, m5⟩ := Qa H5
  obtain ⟨hI1, hI2, hI3, hI4, hI5, hI6, hI7, hI8⟩ := Qa HI3
  obtain ⟨hn1, hn2, hn3⟩ := Qa HNE
  have hns := Qa HNS
  have hs5 := k5.size
  have hs6 : w5.heap.size ≤ w6.heap.size := k6.size
  have hl3 := Qab hI3
  have k56 : Kp rb w5 w6 := (Kp.of_below (Below.refl _ w5).drew).trans k6
  have m6 := k56.keep m5 (by omega)
  obtain ⟨nk, hnk⟩ : ∃ nk, w6.heap.size = nk := ⟨_, rfl⟩
  obtain ⟨w7, hw7⟩ : ∃ w7, w7 = w6.alloc (.cells #[.int .i64 xX.kind, .int .i64 xX.num, str xX.txt, .slice ka kn kc, .int .i64 xX.at_, .int .i64 x2.kind, .int .i64 x2.num, str x2.txt, .slice ea en2 ec, .int .i64 x2.at_] 126) := ⟨_, rfl⟩
  have b7 : Below w6.heap.size w6 w7 := by rw [hw7]; exact (Below.refl _ w6).alloc (Nat.le_refl _) _
  have q7 : w7.heap[nk]? = some (.cells #[.int .i64 xX.kind, .int .i64 xX.num, str xX.txt, .slice ka kn kc, .int .i64 xX.at_, .int .i64 x2.kind, .int .i64 x2.num, str x2.txt, .slice ea en2 ec, .int .i64 x2.at_] 126 (0, 0)) := by rw [hw7, ← hnk]; exact heap_alloc_new w6 _
  have s7 : w7.heap.size = w6.heap.size + 1 := by rw [hw7]; simp
  have m7 := (b7.block _ (Qab m6)).trans m6
  have HC7 := hide m7
  have HC6 := hide m6
  obtain ⟨w8, hw8⟩ : ∃ w8, w8 = w7.setRow ne #[.int .i64 5, .int .i64 0, str ot, .slice (some ⟨nk, 0, none⟩) 2 2, .int .i64 xX.at_] := ⟨_, rfl⟩
  have o8 : ∀ q, q ≠ ne → w8.heap[q]? = w7.heap[q]? := fun q hq => by rw [hw8]; exact setRow_other _ _ _ _ hq
  have s8 : w8.heap.size = w7.heap.size := by rw [hw8, size_setRow]
  have m8 : w8.heap[ne]? = some (.cells #[.int .i64 5, .int .i64 0, str ot, .slice (some ⟨nk, 0, none⟩) 2 2, .int .i64 xX.at_] 126 (0, 0)) := by rw [hw8]; exact setRow_heap _ _ _ _ _ _ m7
  have h8 := (h6.later b7).move (w' := w8) (by omega) (o8 rb (by omega)) (o8 g (by omega))
  have kw7 : Kp rb w w7 := ((hI2.trans k5).trans k56).trans (Kp.of_below b7)
  have k8 : Kp rb w w8 := ⟨by rw [hw8]; exact kw7.os, by rw [hw8]; exact kw7.tape, by rw [hw8]; exact kw7.output, by rw [s8]; exact kw7.size, fun q hq hn => (o8 q (by omega)).trans (kw7.block q hq hn)⟩
  have k58 : ∀ q, q < w5.heap.size → q ≠ rb → q ≠ ne → w8.heap[q]? = w5.heap[q]? := fun q h1 h2 h3 => (o8 q h3).trans ((b7.block q (by omega)).trans (k56.block q h1 h2))
  have z8 : w8.heap[w.heap.size]? = some (.cells #[.int .i64 0, .int .i64 0, .string ⟨#[]⟩, .slice none 0 0, .int .i64 0] 126 (0, 0)) := (k58 _ (by omega) (by have := (Qa HRL).1; omega) (by omega)).trans (k5.keep hI4 (by have := (Qa HRL).1; omega))
  have hxa : ExS (fun b => w.heap.size < b ∧ b ≠ ne) w8 [.int .i64 xX.kind, .int .i64 xX.num, str xX.txt, .slice ka kn kc, .int .i64 xX.at_] xX := Qae.same _ _ w8 _ _ hI5 (by omega) (fun q hq hl => (k58 q (by omega) (by have := (Qa HRL).1; omega) hq.2).trans (k5.block q hl (by have := (Qa HRL).1; omega)))
  have hxb : ExS (fun b => w.heap.size < b ∧ b ≠ ne) w8 [.int .i64 x2.kind, .int .i64 x2.num, str x2.txt, .slice ea en2 ec, .int .i64 x2.at_] x2 := Qae.mono _ _ _ _ _ (Qae.same _ _ w8 _ _ (Qae.mono _ (fun b => w5.drew.heap.size ≤ b ∧ b < w6.heap.size) _ _ _ hx2 (fun b hl hb => ⟨hb, hl⟩)) (by omega) (fun q hq hl => (o8 q (by have := hq.1; have : w5.drew.heap.size = w5.heap.size := rfl; omega)).trans (b7.block q hl))) (fun b _ hb => ⟨by have := hb.1; have : w5.drew.heap.size = w5.heap.size := rfl; omega, by have := hb.1; have : w5.drew.heap.size = w5.heap.size := rfl; omega⟩)
  have q8 : w8.heap[nk]? = some (.cells #[.int .i64 xX.kind, .int .i64 xX.num, str xX.txt, .slice ka kn kc, .int .i64 xX.at_, .int .i64 x2.kind, .int .i64 x2.num, str x2.txt, .slice ea en2 ec, .int .i64 x2.at_] 126 (0, 0)) := (o8 nk (by omega)).trans q7
  have hkids : LsAt PE 5 (fun b => w.heap.size < b ∧ b ≠ ne) w8 (.slice (some ⟨nk, 0, none⟩) 2 2) [xX, x2] := ⟨some ⟨nk, 0, none⟩, 2, [[.int .i64 xX.kind, .int .i64 xX.num, str xX.txt, .slice ka kn kc, .int .i64 xX.at_], [.int .i64 x2.kind, .int .i64 x2.num, str x2.txt, .slice ea en2 ec, .int .i64 x2.at_]], rfl, Nat.le_refl _, by unfold maxLen; omega, ⟨rfl, fun j x cs h1 h2 => by
   match j, h1, h2 with
   | 0, h1, h2 => cases h1; cases h2; exact ⟨rfl, hxa⟩
   | 1, h1, h2 => cases h1; cases h2; exact ⟨rfl, hxb⟩
   | j + 2, h1, h2 => simp at h1⟩, fun _ => ⟨nk, rfl, ⟨by omega, by omega⟩, Qab q8, fun j c hj => by rw [Qaf q8]; simpa using hj⟩⟩
  have hx8 : ExS (fun b => w.heap.size < b ∧ b ≠ ne) w8 [.int .i64 5, .int .i64 0, str ot, .slice (some ⟨nk, 0, none⟩) 2 2, .int .i64 xX.at_] (.mk 5 0 ot [xX, x2] xX.at_) := Qfm hkids
  have sg8 : ∀ (j : Nat) (t : Txt), sg[j]? = some t → w8.cell? ⟨ns, j, none⟩ = some (str t) := fun j t hj => by
   have e1 : w8.heap[ns]? = wr.heap[ns]? := (k58 ns (by omega) (by have := (Qa HRL).1; have := Qa HNR; omega) (by omega)).trans (k5.block ns (by omega) (by have := (Qa HRL).1; have := Qa HNR; omega))
   have := hI6 j t hj
   simp only [World.cell?] at this ⊢
   rw [e1]; exact this
  have hlf := Qai (Qa HI).1 l.length
  have hl8 := Qai h8 l.length
  have HE := hide (show RwI rb g cap l w d i a y ne ns sg w8 a6 y6 f6 (.mk 5 0 ot [xX, x2] xX.at_) (some ⟨nk, 0, none⟩) 2 2 from ⟨h8, k8, m8, z8, hx8, sg8, by omega, fun e => by have := hy6 e; exact ⟨(hI8 this.1).1, by omega⟩⟩)
  have HM := hide (Ya hlf (Ya hl8 (Ya e5 (Ya hy6 (Ya h8.lt hI1.lt)))))
  have HW7 := hide (Ya hw7 hnk)
  have HW8 := hide hw8
  have HM8 := hide (Ya m7 m8)
  clear e5 h5 k5 m5 hI1 hI2 hI3 hI4 hI5 hI6 hI7 hI8 hn1 hn2 hn3 hns hs5 hs6 hl3 k56 m6 hnk hw7 b7 q7 s7 m7 hw8 o8 s8 m8 h8 kw7 k8 k58 z8 hxa hxb q8 hkids hx8 sg8 hlf hl8 hx2 ha6 hy6 h6 k6
  refine Qaa rfl (fun _ => Qa HC6) (fun K hK => ?_)
  go_simp
  rw [← (Qa HW7).1, (Qa HW7).2]
  refine hK _ _ ?_
  clear hK K
  refine Qad rfl (by kernel_rfl) (fun _ _ _ => by go_simp <;> rfl) ?_
  simp [Act.put, Array.setIfInBounds]
  refine Qaa rfl (fun _ => Qa HC7) (fun K hK => ?_)
  refine Qcb rfl _ _ _ rfl ne _ _ #[.int .i64 5, .int .i64 0, str ot, .slice (some ⟨nk, 0, none⟩) 2 2, .int .i64 xX.at_] (by kernel_rfl) (by kernel_rfl) (Qa HM8).1 (by kernel_rfl) rfl (by simp [Value.oneCell', str]) ?_
  refine hK _ _ ?_
  clear hK K
  rw [← Qa HW8]
  refine Qap (fun e => by cases e) (hPP _ _ ?_)
  clear hPP PP
  simp [Act.put]
  go_wp2_with fail
  go_roundw
  case rel => exact ⟨_, _, _, _, _, _, _, HE⟩
  obtain ⟨hlf, hl8, e5, hy6, hl1, hl2⟩ := Qa HM
  rw [hlf, hl8, if_pos (Qa HY)]
  split
  ·
   rename_i e
   have := (hy6 e).2
   omega
  · omega
 rw [decide_eq_false hy] at hwl
 rw [← hWX] at HI hwl
 rw [← hWX]
 clear hy hWX
 go_wp2_with fail
 refine hwl.mono ?_
 clear hwl
 rintro en wq ⟨rfl, ew⟩
 rw [ew]
 clear ew
 obtain ⟨h4, k4, m4, z4, hx4, hsg4, ha4, hY4⟩ := Qa HI
 have L5 := Qcf m4
 have S5 := Qbc (new := #[.int .i64 xX.kind, .int .i64 xX.num, str xX.txt, .slice ka kn kc, .int .i64 xX.at_]) z4 rfl rfl (by simp [Value.oneCell', str])
 obtain ⟨w6, hw6⟩ : ∃ w6, w6 = WX.setRow w.heap.size #[.int .i64 xX.kind, .int .i64 xX.num, str xX.txt, .slice ka kn kc, .int .i64 xX.at_] := ⟨_, rfl⟩
 rw [← hw6] at S5
 have o6 : ∀ q, q ≠ w.heap.size → w6.heap[q]? = WX.heap[q]? := fun q hq => by rw [hw6]; exact setRow_other _ _ _ _ hq
 have s6 : w6.heap.size = WX.heap.size := by rw [hw6, size_setRow]
 have z6 : w6.heap[w.heap.size]? = some (.cells #[.int .i64 xX.kind, .int .i64 xX.num, str xX.txt, .slice ka kn kc, .int .i64 xX.at_] 126 (0, 0)) := by rw [hw6]; exact setRow_heap _ _ _ _ _ _ z4
 have h6 := h4.move (w' := w6) (by omega) (o6 rb (by have := Qa HRL; omega)) (o6 g (by have := Qa HRL; omega))
 have k6 : Kp rb w w6 := ⟨by rw [hw6]; exact k4.os, by rw [hw6]; exact k4.tape, by rw [hw6]; exact k4.output, by rw [s6]; exact k4.size, fun q hq hn => (o6 q (by omega)).trans (k4.block q hq hn)⟩
 have hx6 : ExS (fun b => w.heap.size ≤ b) w6 [.int .i64 xX.kind, .int .i64 xX.num, str xX.txt, .slice ka kn kc, .int .i64 xX.at_] xX := by
  have q1 := Qae.same _ _ w6 _ _ hx4 (by omega) (fun b hb hl => o6 b (by have := hb.1; omega))
  exact Qae.mono _ _ _ _ _ q1 (fun b _ hb => by have := hb.1; omega)
 have HF := hide (Ya h6 (Ya k6 (Ya z6 (Ya hx6 (Ya ha4 hY4)))))
 clear h4 k4 m4 z4 hx4 hsg4 ha4 hY4 o6 s6 z6 h6 k6 hx6 hw6
 go_wp2_with fail
 obtain ⟨h6, k6, z6, hx6, ha4, hY4⟩ := Qa HF
 obtain ⟨z_0, z_1, z_2, z_3, z_4, zf⟩ := ex5 z6
 refine bodyPost_ret (v := .agg #[.int .i64 xX.kind, .int .i64 xX.num, str xX.txt, .slice ka kn kc, .int .i64 xX.at_]) (by simp [results, Try.results127, go_sem, z_0, z_1, z_2, z_3, z_4]) rfl ?_
 exact ⟨_, _, _, _, _, rfl, ⟨xX, _, rfl, ⟨_, _, _, rfl⟩, hx6⟩, ⟨rfl, ha4, hY4⟩, h6, k6⟩
theorem Qqa {rb g cap d : Nat} {l : List Tok} (hR : ExC 127 rb g cap l d #[.pointer (some ⟨rb, 0, none⟩), .int .i64 2]) : ExC 127 rb g cap l d #[.pointer (some ⟨rb, 0, none⟩), .int .i64 1] := fun w a i y f h => by
 obtain ⟨W1, hW1⟩ : ∃ W1, W1 = ((w.alloc (.cells #[.int .i64 0, .int .i64 0, .string ⟨#[]⟩, .slice none 0 0, .int .i64 0] 126)).alloc (.cells #[.string ⟨#[43]⟩, .string ⟨#[45]⟩] 9)).alloc (.cells #[.string ⟨#[42]⟩, .string ⟨#[47]⟩, .string ⟨#[37]⟩] 9) := ⟨_, rfl⟩
 have b1 : Below w.heap.size w W1 := by rw [hW1]; exact ((((Below.refl _ w).alloc (Nat.le_refl _) _).alloc (by simp) _).alloc (by simp; omega) _)
 have n1 : W1.heap[w.heap.size]? = some (.cells #[.int .i64 0, .int .i64 0, .string ⟨#[]⟩, .slice none 0 0, .int .i64 0] 126 (0, 0)) := by rw [hW1, Below.heap_alloc _ _ _ (by simp; omega), Below.heap_alloc _ _ _ (by simp)]; exact heap_alloc_new w _
 have g1 : W1.heap[w.heap.size + 2]? = some (.cells #[.string ⟨#[42]⟩, .string ⟨#[47]⟩, .string ⟨#[37]⟩] 9) := by
  rw [hW1]
  have := heap_alloc_new ((w.alloc (.cells #[.int .i64 0, .int .i64 0, .string ⟨#[]⟩, .slice none 0 0, .int .i64 0] 126)).alloc (.cells #[.string ⟨#[43]⟩, .string ⟨#[45]⟩] 9)) (.cells #[.string ⟨#[42]⟩, .string ⟨#[47]⟩, .string ⟨#[37]⟩] 9)
  rwa [show ((w.alloc (.cells #[.int .i64 0, .int .i64 0, .string ⟨#[]⟩, .slice none 0 0, .int .i64 0] 126)).alloc (.cells #[.string ⟨#[43]⟩, .string ⟨#[45]⟩] 9)).heap.size = w.heap.size + 2 by simp] at this
 have s1 : W1.heap.size = w.heap.size + 2 + 1 := by rw [hW1]; simp
 obtain ⟨ns, hns⟩ : ∃ ns, ns = w.heap.size + 2 := ⟨_, rfl⟩
 rw [← hns] at g1
 obtain ⟨sg, hsg⟩ : ∃ sg : List Txt, sg = [[42], [47], [37]] := ⟨_, rfl⟩
 have q1 : ∀ (j : Nat) (t : Txt), sg[j]? = some t → W1.cell? ⟨ns, j, none⟩ = some (str t) := fun j t hj => by
  rw [Qaf g1]
  rw [hsg] at hj
  match j, hj with
  | 0, hj => cases hj; rfl
  | 1, hj => cases hj; rfl
  | 2, hj => cases hj; rfl
  | j + 3, hj => simp at hj
 have hcl := hR W1 a i y f (h.later b1)
 have hrl := Qab h.box
 have hgl := h.row.lt
 have HRL := hide (Ya hrl hgl)
 have HRC := hide hR
 have H1 := hide (Ya b1 (Ya n1 (Ya q1 (Ya s1 (Ya hns g1)))))
 have HW1 := hide hW1
 have HSG := hide (show sg.length = 3 by rw [hsg]; rfl)
 clear hW1 b1 n1 g1 s1 hsg q1 h hR hns
 go_enter Try.func127, Try.ntmps127
 go_wp2_with fail
 rw [← Qa HW1]
 clear HW1
 refine hcl.mono ?_
 clear hcl
 rintro en w1 ⟨_, a1, i1, y1, f1, rfl, ⟨x1, _, rfl, ⟨ka, kn, kc, rfl⟩, hx1⟩, ⟨ei, ha1, hy1⟩, h1, k1⟩
 rw [ei] at h1
 clear ei
 obtain ⟨b1, n1, q1, s1, hns, g1⟩ := Qa H1
 have hs1 := k1.size
 obtain ⟨ne, hne⟩ : ∃ ne, w1.heap.size = ne := ⟨_, rfl⟩
 obtain ⟨W2, hW2⟩ : ∃ W2, W2 = w1.alloc (.cells #[.int .i64 x1.kind, .int .i64 x1.num, str x1.txt, .slice ka kn kc, .int .i64 x1.at_] 126) := ⟨_, rfl⟩
 have b2 : Below w1.heap.size w1 W2 := by rw [hW2]; exact (Below.refl _ w1).alloc (Nat.le_refl _) _
 have m2 : W2.heap[ne]? = some (.cells #[.int .i64 x1.kind, .int .i64 x1.num, str x1.txt, .slice ka kn kc, .int .i64 x1.at_] 126 (0, 0)) := by rw [hW2, ← hne]; exact heap_alloc_new w1 _
 have z2 : W2.heap[w.heap.size]? = some (.cells #[.int .i64 0, .int .i64 0, .string ⟨#[]⟩, .slice none 0 0, .int .i64 0] 126 (0, 0)) := (b2.block _ (by omega)).trans (k1.keep n1 (by omega))
 have gg2 : W2.heap[ns]? = some (.cells #[.string ⟨#[42]⟩, .string ⟨#[47]⟩, .string ⟨#[37]⟩] 9) := (b2.block _ (by omega)).trans (k1.keep g1 (by omega))
 have q2 : ∀ (j : Nat) (t : Txt), sg[j]? = some t → W2.cell? ⟨ns, j, none⟩ = some (str t) := fun j t hj => by
  have := q1 j t hj
  rw [Qaf g1] at this
  rw [Qaf gg2]
  exact this
 have hx2 : ExS (fun b => w.heap.size < b ∧ b ≠ ne) W2 [.int .i64 x1.kind, .int .i64 x1.num, str x1.txt, .slice ka kn kc, .int .i64 x1.at_] x1 := Qae.mono _ _ _ _ _ (Qae.same _ _ W2 _ _ (Qae.mono _ (fun b => W1.heap.size ≤ b ∧ b < w1.heap.size) _ _ _ hx1 (fun b hl hb => ⟨hb, hl⟩)) b2.size (fun b _ hl => b2.block b hl)) (fun b _ hb => ⟨by omega, by omega⟩)
 have HST : Hid (RwI rb g cap l w d i a y ne ns sg W2 a1 y1 f1 x1 ka kn kc) := ⟨h1.later b2, ((Kp.of_below b1).trans k1).trans (Kp.of_below b2), m2, z2, hx2, q2, ha1, hy1⟩
 have HNE := hide (show rb < ne ∧ g < ne ∧ w.heap.size < ne by omega)
 have HNS := hide (show ns < ne by omega)
 have HNR := hide (show w.heap.size < ns by omega)
 have N2 := Qdv w1 (c0 := .int .i64 x1.kind) (c1 := .int .i64 x1.num) (c2 := str x1.txt) (c3 := .slice ka kn kc) (c4 := .int .i64 x1.at_) (by simp [Value.oneCell', str])
 have HN2 := hide (Ya hW2 hne)
 rw [← hW2] at N2
 clear hW2 b2 m2 z2 gg2 q2 hx2 b1 n1 q1 s1 g1 hs1 hne h1 k1 hx1 ha1 hy1 hns
 go_wp2_with fail
 rw [(Qa HN2).2, ← (Qa H1).2.2.2.2.1]
 clear HN2 N2 H1
 go_loopw [7, 9] (fun _ _ wr => ∃ (aX : Nat) (yX fX : Int) (xX : Ex) (ka : Option Addr) (kn kc : Nat), Hid (RwI rb g cap l w d i a y ne ns sg wr aX yX fX xX ka kn kc)) (fun _ _ wr => leftR rb l.length wr)
 case atStart => exact ⟨_, _, _, _, _, _, _, HST⟩
 obtain ⟨aX, yX, fX, xX, ka, kn, kc, HI⟩ := hrel
 clear HST
 obtain ⟨WX, hWX⟩ : ∃ WX, WX = wr := ⟨_, rfl⟩
 have hwl := Qao (Qa HI).1
 by_cases hy : yX = 0
 ·
  rw [decide_eq_true hy] at hwl
  have HY := hide hy
  clear hy
  clear hWX WX
  go_wp2_with fail
  refine hwl.mono ?_
  clear hwl
  rintro en wq ⟨rfl, rfl⟩
  go_wp2_with fail
  go_loopw [7, 9, 26] (fun v7 _ v26 wr2 => ∃ (ot : Txt) (j : Nat), v7 = str ot ∧ v26 = .int .i64 (j : Int) ∧ j ≤ 3 ∧ Hid (Below wq.heap.size wq wr2 ∧ (ot ≠ [] → yX = 0 ∧ aX + 1 < l.length))) (fun _ _ v26 _ => 3 - (intOf v26).toNat)
  case atStart => exact ⟨[], 0, rfl, rfl, Nat.zero_le _, hide ⟨Below.refl _ _, fun h => absurd rfl h⟩⟩
  obtain ⟨ot, j, rfl, rfl, hj, HJ⟩ := hrel
  by_cases hlt : j < 3
  ·
   obtain ⟨st, hst⟩ : ∃ st, sg[j]? = some st := ⟨sg[j]'(by rw [Qa HSG]; exact hlt), List.getElem?_eq_getElem _⟩
   have c1 := ((Qa HJ).1.cell (p := ⟨ns, j, none⟩) (by show ns < wq.heap.size; have := Qab (Qa HI).2.2.1; have := Qa HNS; omega)).trans ((Qa HI).2.2.2.2.2.1 j st hst)
   have hsn := Qby ((Qa HI).1.later (Qa HJ).1) ⟨st.toArray⟩
   rw [show (Value.string ⟨st.toArray⟩) = str st from rfl] at hsn
   clear hst
   go_wp2_with fail
   refine hsn.mono ?_
   clear hsn
   rintro en w4 ⟨b, rfl, hb, b4⟩
   have HB4 := hide (Ya hb ((Qa HJ).1.trans (b4.mono (Qa HJ).1.size)))
   clear hb b4 c1
   cases b
   ·
    go_wp2_with fail
    go_roundw
    case rel => exact ⟨ot, j + 1, rfl, by go_num, by omega, hide ⟨(Qa HB4).2, (Qa HJ).2⟩⟩
    case measure => simp [intOf]; omega
   go_wp2_with fail
   go_roundw
   case rel => exact ⟨st, j + 1, rfl, by go_num, by omega, hide ⟨(Qa HB4).2, fun _ => (Qa HB4).1 (by trivial)⟩⟩
   case measure => simp [intOf]; omega
  have HI3 : Hid (RwI rb g cap l w d i a y ne ns sg wr aX yX fX xX ka kn kc) := (Qa HI).later (Qa HNS) (Qa HJ).1
  by_cases ho : ot = []
  ·
   have go1 : (ot == []) = true := by simpa using ho
   obtain ⟨WX, hWX⟩ : ∃ WX, WX = wr := ⟨_, rfl⟩
   rw [← hWX] at HI3
   rw [← hWX]
   clear ho hWX HJ
   obtain ⟨h4, k4, m4, z4, hx4, hsg4, ha4, hY4⟩ := Qa HI3
   have L5 := Qcf m4
   have S5 := Qbc (new := #[.int .i64 xX.kind, .int .i64 xX.num, str xX.txt, .slice ka kn kc, .int .i64 xX.at_]) z4 rfl rfl (by simp [Value.oneCell', str])
   obtain ⟨w6, hw6⟩ : ∃ w6, w6 = WX.setRow w.heap.size #[.int .i64 xX.kind, .int .i64 xX.num, str xX.txt, .slice ka kn kc, .int .i64 xX.at_] := ⟨_, rfl⟩
   rw [← hw6] at S5
   have o6 : ∀ q, q ≠ w.heap.size → w6.heap[q]? = WX.heap[q]? := fun q hq => by rw [hw6]; exact setRow_other _ _ _ _ hq
   have s6 : w6.heap.size = WX.heap.size := by rw [hw6, size_setRow]
   have z6 : w6.heap[w.heap.size]? = some (.cells #[.int .i64 xX.kind, .int .i64 xX.num, str xX.txt, .slice ka kn kc, .int .i64 xX.at_] 126 (0, 0)) := by rw [hw6]; exact setRow_heap _ _ _ _ _ _ z4
   have h6 := h4.move (w' := w6) (by omega) (o6 rb (by have := Qa HRL; omega)) (o6 g (by have := Qa HRL; omega))
   have k6 : Kp rb w w6 := ⟨by rw [hw6]; exact k4.os, by rw [hw6]; exact k4.tape, by rw [hw6]; exact k4.output, by rw [s6]; exact k4.size, fun q hq hn => (o6 q (by omega)).trans (k4.block q hq hn)⟩
   have hx6 : ExS (fun b => w.heap.size ≤ b) w6 [.int .i64 xX.kind, .int .i64 xX.num, str xX.txt, .slice ka kn kc, .int .i64 xX.at_] xX := by
    have q1 := Qae.same _ _ w6 _ _ hx4 (by omega) (fun b hb hl => o6 b (by have := hb.1; omega))
    exact Qae.mono _ _ _ _ _ q1 (fun b _ hb => by have := hb.1; omega)
   have HF := hide (Ya h6 (Ya k6 (Ya z6 (Ya hx6 (Ya ha4 hY4)))))
   clear h4 k4 m4 z4 hx4 hsg4 ha4 hY4 o6 s6 z6 h6 k6 hx6 hw6
   go_wp2_with fail
   obtain ⟨h6, k6, z6, hx6, ha4, hY4⟩ := Qa HF
   obtain ⟨z_0, z_1, z_2, z_3, z_4, zf⟩ := ex5 z6
   refine bodyPost_ret (v := .agg #[.int .i64 xX.kind, .int .i64 xX.num, str xX.txt, .slice ka kn kc, .int .i64 xX.at_]) (by simp [results, Try.results127, go_sem, z_0, z_1, z_2, z_3, z_4]) rfl ?_
   exact ⟨_, _, _, _, _, rfl, ⟨xX, _, rfl, ⟨_, _, _, rfl⟩, hx6⟩, ⟨rfl, ha4, hY4⟩, h6, k6⟩
  have go1 : (ot == []) = false := by simpa using ho
  have HO := hide ((Qa HJ).2 ho)
  clear ho HJ
  obtain ⟨hI1, hI2, hI3, hI4, hI5, hI6, hI7, hI8⟩ := Qa HI3
  obtain ⟨t, ht⟩ := hI1.tok
  have htk := Qau hI1 ht
  clear hI1 hI2 hI3 hI4 hI5 hI6 hI7 hI8 ht
  go_wp2_with fail
  refine htk.mono ?_
  clear htk
  rintro en w5 ⟨_, a5, i5, y5, f5, rfl, rfl, ⟨ei, ey, hY5⟩, h5, k5⟩
  rw [ei, ey] at h5
  clear ei ey
  obtain ⟨hI1, hI2, hI3, hI4, hI5, hI6, hI7, hI8⟩ := Qa HI3
  obtain ⟨o1, o2⟩ := Qa HO
  have e5 : a5 = aX + 1 := by
   rcases hY5 with ⟨_, _, e⟩ | ⟨_, hn⟩
   · exact e
   · exact absurd o2 (hn o1)
  have hne := Qa HNE
  have m5 := k5.keep hI3 (by omega)
  have hr5 := Qa HRC w5.drew a5 i yX f5 (h5.later (Below.refl _ w5).drew)
  have HC : Hid (∀ w', Kp rb w5 w' → w'.heap[ne]? = some (.cells #[.int .i64 xX.kind, .int .i64 xX.num, str xX.txt, .slice ka kn kc, .int .i64 xX.at_] 126 (0, 0))) := fun w' kk => kk.keep m5 (by omega)
  have H5 := hide (Ya e5 (Ya h5 (Ya k5 m5)))
  clear hY5 h5 k5 hI1 hI2 hI3 hI4 hI5 hI6 hI7 hI8 o1 o2 e5 hne m5
  go_wp2_with fail
  refine Qam (m := 10) (ml := [(0, 1), (1, 1), (2, 2), (3, 2), (4, 1), (5, 1), (6, 1), (7, 0), (8, 0), (9, 1), (10, 0)]) (fun ff w' => ff = false → w'.heap[ne]? = some (.cells #[.int .i64 xX.kind, .int .i64 xX.num, str xX.txt, .slice ka kn kc, .int .i64 xX.at_] 126 (0, 0))) mixedO (by kernel_rfl) rfl (by rfl) (by kernel_rfl) (fun PP hPP => ?_)
  iterate 2 (refine mF (v := ?_) (fun f w' hw => ?_) ?_; rotate_left; · (go_simp <;> rfl))
  iterate 2 (refine Qaq (v := ?_) rfl (by kernel_rfl) (fun w' hw => ?_) ?_; rotate_left; · (have L := Qcf (hw rfl); obtain ⟨x_0, x_1, x_2, x_3, x_4, xf⟩ := ex5 (hw rfl); go_simp <;> rfl))
  iterate 3 (refine mF (v := ?_) (fun f w' hw => ?_) ?_; rotate_left; · (go_simp <;> rfl))
  refine Qaa rfl (fun _ => Qa HC _ (Kp.of_below (Below.refl _ w5).drew)) (fun K hK => ?_)
  go_simp
  refine hr5.mono ?_
  clear hr5
  rintro en w6 ⟨_, a6, i6, y6, f6, rfl, ⟨x2, _, rfl, ⟨ea, en2, ec, rfl⟩, hx2⟩, ⟨ei, ha6, hy6⟩, h6, k6⟩
  rw [ei] at h6
  clear ei
  show K _ _
  refine hK _ _ ?_
  clear hK K
  obtain ⟨e5, h5, k5, m5⟩ := Qa H5
  obtain ⟨hI1, hI2, hI3, hI4, hI5, hI6, hI7, hI8⟩ := Qa HI3
  obtain ⟨hn1, hn2, hn3⟩ := Qa HNE
  have hns := Qa HNS
  have hs5 := k5.size
  have hs6 : w5.heap.size ≤ w6.heap.size := k6.size
  have hl3 := Qab hI3
  have k56 : Kp rb w5 w6 := (Kp.of_below (Below.refl _ w5).drew).trans k6
  have m6 := k56.keep m5 (by omega)
  obtain ⟨nk, hnk⟩ : ∃ nk, w6.heap.size = nk := ⟨_, rfl⟩
  obtain ⟨w7, hw7⟩ : ∃ w7, w7 = w6.alloc (.cells #[.int .i64 xX.kind, .int .i64 xX.num, str xX.txt, .slice ka kn kc, .int .i64 xX.at_, .int .i64 x2.kind, .int .i64 x2.num, str x2.txt, .slice ea en2 ec, .int .i64 x2.at_] 126) := ⟨_, rfl⟩
  have b7 : Below w6.heap.size w6 w7 := by rw [hw7]; exact (Below.refl _ w6).alloc (Nat.le_refl _) _
  have q7 : w7.heap[nk]? = some (.cells #[.int .i64 xX.kind, .int .i64 xX.num, str xX.txt, .slice ka kn kc, .int .i64 xX.at_, .int .i64 x2.kind, .int .i64 x2.num, str x2.txt, .slice ea en2 ec, .int .i64 x2.at_] 126 (0, 0)) := by rw [hw7, ← hnk]; exact heap_alloc_new w6 _
  have s7 : w7.heap.size = w6.heap.size + 1 := by rw [hw7]; simp
  have m7 := (b7.block _ (Qab m6)).trans m6
  have HC7 := hide m7
  have HC6 := hide m6
  obtain ⟨w8, hw8⟩ : ∃ w8, w8 = w7.setRow ne #[.int .i64 5, .int .i64 0, str ot, .slice (some ⟨nk, 0, none⟩) 2 2, .int .i64 xX.at_] := ⟨_, rfl⟩
  have o8 : ∀ q, q ≠ ne → w8.heap[q]? = w7.heap[q]? := fun q hq => by rw [hw8]; exact setRow_other _ _ _ _ hq
  have s8 : w8.heap.size = w7.heap.size := by rw [hw8, size_setRow]
  have m8 : w8.heap[ne]? = some (.cells #[.int .i64 5, .int .i64 0, str ot, .slice (some ⟨nk, 0, none⟩) 2 2, .int .i64 xX.at_] 126 (0, 0)) := by rw [hw8]; exact setRow_heap _ _ _ _ _ _ m7
  have h8 := (h6.later b7).move (w' := w8) (by omega) (o8 rb (by omega)) (o8 g (by omega))
  have kw7 : Kp rb w w7 := ((hI2.trans k5).trans k56).trans (Kp.of_below b7)
  have k8 : Kp rb w w8 := ⟨by rw [hw8]; exact kw7.os, by rw [hw8]; exact kw7.tape, by rw [hw8]; exact kw7.output, by rw [s8]; exact kw7.size, fun q hq hn => (o8 q (by omega)).trans (kw7.block q hq hn)⟩
  have k58 : ∀ q, q < w5.heap.size → q ≠ rb → q ≠ ne → w8.heap[q]? = w5.heap[q]? := fun q h1 h2 h3 => (o8 q h3).trans ((b7.block q (by omega)).trans (k56.block q h1 h2))
  have z8 : w8.heap[w.heap.size]? = some (.cells #[.int .i64 0, .int .i64 0, .string ⟨#[]⟩, .slice none 0 0, .int .i64 0] 126 (0, 0)) := (k58 _ (by omega) (by have := (Qa HRL).1; omega) (by omega)).trans (k5.keep hI4 (by have := (Qa HRL).1; omega))
  have hxa : ExS (fun b => w.heap.size < b ∧ b ≠ ne) w8 [.int .i64 xX.kind, .int .i64 xX.num, str xX.txt, .slice ka kn kc, .int .i64 xX.at_] xX := Qae.same _ _ w8 _ _ hI5 (by omega) (fun q hq hl => (k58 q (by omega) (by have := (Qa HRL).1; omega) hq.2).trans (k5.block q hl (by have := (Qa HRL).1; omega)))
  have hxb : ExS (fun b => w.heap.size < b ∧ b ≠ ne) w8 [.int .i64 x2.kind, .int .i64 x2.num, str x2.txt, .slice ea en2 ec, .int .i64 x2.at_] x2 := Qae.mono _ _ _ _ _ (Qae.same _ _ w8 _ _ (Qae.mono _ (fun b => w5.drew.heap.size ≤ b ∧ b < w6.heap.size) _ _ _ hx2 (fun b hl hb => ⟨hb, hl⟩)) (by omega) (fun q hq hl => (o8 q (by have := hq.1; have : w5.drew.heap.size = w5.heap.size := rfl; omega)).trans (b7.block q hl))) (fun b _ hb => ⟨by have := hb.1; have : w5.drew.heap.size = w5.heap.size := rfl; omega, by have := hb.1; have : w5.drew.heap.size = w5.heap.size := rfl; omega⟩)
  have q8 : w8.heap[nk]? = some (.cells #[.int .i64 xX.kind, .int .i64 xX.num, str xX.txt, .slice ka kn kc, .int .i64 xX.at_, .int .i64 x2.kind, .int .i64 x2.num, str x2.txt, .slice ea en2 ec, .int .i64 x2.at_] 126 (0, 0)) := (o8 nk (by omega)).trans q7
  have hkids : LsAt PE 5 (fun b => w.heap.size < b ∧ b ≠ ne) w8 (.slice (some ⟨nk, 0, none⟩) 2 2) [xX, x2] := ⟨some ⟨nk, 0, none⟩, 2, [[.int .i64 xX.kind, .int .i64 xX.num, str xX.txt, .slice ka kn kc, .int .i64 xX.at_], [.int .i64 x2.kind, .int .i64 x2.num, str x2.txt, .slice ea en2 ec, .int .i64 x2.at_]], rfl, Nat.le_refl _, by unfold maxLen; omega, ⟨rfl, fun j x cs h1 h2 => by
   match j, h1, h2 with
   | 0, h1, h2 => cases h1; cases h2; exact ⟨rfl, hxa⟩
   | 1, h1, h2 => cases h1; cases h2; exact ⟨rfl, hxb⟩
   | j + 2, h1, h2 => simp at h1⟩, fun _ => ⟨nk, rfl, ⟨by omega, by omega⟩, Qab q8, fun j c hj => by rw [Qaf q8]; simpa using hj⟩⟩
  have hx8 : ExS (fun b => w.heap.size < b ∧ b ≠ ne) w8 [.int .i64 5, .int .i64 0, str ot, .slice (some ⟨nk, 0, none⟩) 2 2, .int .i64 xX.at_] (.mk 5 0 ot [xX, x2] xX.at_) := Qfm hkids
  have sg8 : ∀ (j : Nat) (t : Txt), sg[j]? = some t → w8.cell? ⟨ns, j, none⟩ = some (str t) := fun j t hj => by
   have e1 : w8.heap[ns]? = wr.heap[ns]? := (k58 ns (by omega) (by have := (Qa HRL).1; have := Qa HNR; omega) (by omega)).trans (k5.block ns (by omega) (by have := (Qa HRL).1; have := Qa HNR; omega))
   have := hI6 j t hj
   simp only [World.cell?] at this ⊢
   rw [e1]; exact this
  have hlf := Qai (Qa HI).1 l.length
  have hl8 := Qai h8 l.length
  have HE := hide (show RwI rb g cap l w d i a y ne ns sg w8 a6 y6 f6 (.mk 5 0 ot [xX, x2] xX.at_) (some ⟨nk, 0, none⟩) 2 2 from ⟨h8, k8, m8, z8, hx8, sg8, by omega, fun e => by have := hy6 e; exact ⟨(hI8 this.1).1, by omega⟩⟩)
  have HM := hide (Ya hlf (Ya hl8 (Ya e5 (Ya hy6 (Ya h8.lt hI1.lt)))))
  have HW7 := hide (Ya hw7 hnk)
  have HW8 := hide hw8
  have HM8 := hide (Ya m7 m8)
  clear e5 h5 k5 m5 hI1 hI2 hI3 hI4 hI5 hI6 hI7 hI8 hn1 hn2 hn3 hns hs5 hs6 hl3 k56 m6 hnk hw7 b7 q7 s7 m7 hw8 o8 s8 m8 h8 kw7 k8 k58 z8 hxa hxb q8 hkids hx8 sg8 hlf hl8 hx2 ha6 hy6 h6 k6
  refine Qaa rfl (fun _ => Qa HC6) (fun K hK => ?_)
  go_simp
  rw [← (Qa HW7).1, (Qa HW7).2]
  refine hK _ _ ?_
  clear hK K
  refine Qad rfl (by kernel_rfl) (fun _ _ _ => by go_simp <;> rfl) ?_
  simp [Act.put, Array.setIfInBounds]
  refine Qaa rfl (fun _ => Qa HC7) (fun K hK => ?_)
  refine Qcb rfl _ _ _ rfl ne _ _ #[.int .i64 5, .int .i64 0, str ot, .slice (some ⟨nk, 0, none⟩) 2 2, .int .i64 xX.at_] (by kernel_rfl) (by kernel_rfl) (Qa HM8).1 (by kernel_rfl) rfl (by simp [Value.oneCell', str]) ?_
  refine hK _ _ ?_
  clear hK K
  rw [← Qa HW8]
  refine Qap (fun e => by cases e) (hPP _ _ ?_)
  clear hPP PP
  simp [Act.put]
  go_wp2_with fail
  go_roundw
  case rel => exact ⟨_, _, _, _, _, _, _, HE⟩
  obtain ⟨hlf, hl8, e5, hy6, hl1, hl2⟩ := Qa HM
  rw [hlf, hl8, if_pos (Qa HY)]
  split
  ·
   rename_i e
   have := (hy6 e).2
   omega
  · omega
 rw [decide_eq_false hy] at hwl
 rw [← hWX] at HI hwl
 rw [← hWX]
 clear hy hWX
 go_wp2_with fail
 refine hwl.mono ?_
 clear hwl
 rintro en wq ⟨rfl, ew⟩
 rw [ew]
 clear ew
 obtain ⟨h4, k4, m4, z4, hx4, hsg4, ha4, hY4⟩ := Qa HI
 have L5 := Qcf m4
 have S5 := Qbc (new := #[.int .i64 xX.kind, .int .i64 xX.num, str xX.txt, .slice ka kn kc, .int .i64 xX.at_]) z4 rfl rfl (by simp [Value.oneCell', str])
 obtain ⟨w6, hw6⟩ : ∃ w6, w6 = WX.setRow w.heap.size #[.int .i64 xX.kind, .int .i64 xX.num, str xX.txt, .slice ka kn kc, .int .i64 xX.at_] := ⟨_, rfl⟩
 rw [← hw6] at S5
 have o6 : ∀ q, q ≠ w.heap.size → w6.heap[q]? = WX.heap[q]? := fun q hq => by rw [hw6]; exact setRow_other _ _ _ _ hq
 have s6 : w6.heap.size = WX.heap.size := by rw [hw6, size_setRow]
 have z6 : w6.heap[w.heap.size]? = some (.cells #[.int .i64 xX.kind, .int .i64 xX.num, str xX.txt, .slice ka kn kc, .int .i64 xX.at_] 126 (0, 0)) := by rw [hw6]; exact setRow_heap _ _ _ _ _ _ z4
 have h6 := h4.move (w' := w6) (by omega) (o6 rb (by have := Qa HRL; omega)) (o6 g (by have := Qa HRL; omega))
 have k6 : Kp rb w w6 := ⟨by rw [hw6]; exact k4.os, by rw [hw6]; exact k4.tape, by rw [hw6]; exact k4.output, by rw [s6]; exact k4.size, fun q hq hn => (o6 q (by omega)).trans (k4.block q hq hn)⟩
 have hx6 : ExS (fun b => w.heap.size ≤ b) w6 [.int .i64 xX.kind, .int .i64 xX.num, str xX.txt, .slice ka kn kc, .int .i64 xX.at_] xX := by
  have q1 := Qae.same _ _ w6 _ _ hx4 (by omega) (fun b hb hl => o6 b (by have := hb.1; omega))
  exact Qae.mono _ _ _ _ _ q1 (fun b _ hb => by have := hb.1; omega)
 have HF := hide (Ya h6 (Ya k6 (Ya z6 (Ya hx6 (Ya ha4 hY4)))))
 clear h4 k4 m4 z4 hx4 hsg4 ha4 hY4 o6 s6 z6 h6 k6 hx6 hw6
 go_wp2_with fail
 obtain ⟨h6, k6, z6, hx6, ha4, hY4⟩ := Qa HF
 obtain ⟨z_0, z_1, z_2, z_3, z_4, zf⟩ := ex5 z6
 refine bodyPost_ret (v := .agg #[.int .i64 xX.kind, .int .i64 xX.num, str xX.txt, .slice ka kn kc, .int .i64 xX.at_]) (by simp [results, Try.results127, go_sem, z_0, z_1, z_2, z_3, z_4]) rfl ?_
 exact ⟨_, _, _, _, _, rfl, ⟨xX, _, rfl, ⟨_, _, _, rfl⟩, hx6⟩, ⟨rfl, ha4, hY4⟩, h6, k6⟩
end
end Go.Proofs.Ytfmbpaoapjmdnaa
