/- syn: Parse. show's writer: what it holds; a text is added. show's writer: add. show's writer: put. show's writer: field. Lists in memory that are held against each other. -/
import Derived.Test.YtccehgfecaamoaaGreatDoorQb20
import Derived.Test.YtccehgfecaamoaaGreatDoorQb05
import Derived.Shelf.Strings.BuilderK
import Derived.Lib.AppendIntMem
import Derived.Test.YtccehgfecaamoaaGreatDoorQb06
set_option maxRecDepth 100000
set_option maxHeartbeats 32000000
namespace Go.Proofs.YtccehgfecaamoaaGreatDoor
section
open Go.RowKit Go.Maps
def TkOk (t : Tok) : Prop := 1 ≤ t.kind ∧ t.kind ≤ 4 ∧ 0 ≤ t.num ∧ t.num ≤ 9223372036854775807
theorem tok_ok {r : Txt} {kd : Int} {tx : Txt} {nm : Int} {n : Nat} (h : tokAt r = .tok kd tx nm n) : 1 ≤ kd ∧ kd ≤ 4 ∧ 0 ≤ nm ∧ nm ≤ 9223372036854775807 := by
 cases r with
 | nil => simp [tokAt] at h
 | cons c t =>
  rw [Qbm] at h
  split at h
  ·
   unfold nmRes at h
   split at h
   · cases h
   · cases h; decide
  split at h
  ·
   unfold dgRes at h
   split at h
   · cases h
   split at h
   · cases h
   · cases h; exact ⟨by decide, by decide, by omega, by omega⟩
  split at h
  ·
   unfold txRes at h
   cases ht : txScan t with
   | ok v m => rw [ht] at h; cases h; decide
   | bad o => rw [ht] at h; cases h
   | never => rw [ht] at h; cases h
  unfold sgRes at h
  split at h
  · cases h
  · cases h; decide
theorem scan_ok : ∀ (m : Nat) (r : Txt) (k : Nat), r.length ≤ m → ∀ l, scan k r = .ok l → l.length ≤ r.length ∧ ∀ t ∈ l, TkOk t := by
 intro m
 induction m with
 | zero =>
  intro r k h l hl
  have : r = [] := List.eq_nil_of_length_eq_zero (by omega)
  subst this
  rw [Qcs] at hl
  cases hl
  exact ⟨Nat.le_refl _, fun t ht => by cases ht⟩
 | succ m ih =>
  intro r k h l hl
  by_cases h0 : r = []
  · subst h0; rw [Qcs] at hl; cases hl; exact ⟨Nat.le_refl _, fun t ht => by cases ht⟩
  cases hg : gapAt r with
  | never => rw [Qeg hg] at hl; cases hl
  | gap n =>
   have hp := Qfx hg
   rw [Qfq hg] at hl
   obtain ⟨g1, g2⟩ := ih (r.drop n) (k + n) (by rw [List.length_drop]; omega) l hl
   rw [List.length_drop] at g1
   exact ⟨by omega, g2⟩
  | none =>
   cases ht : tokAt r with
   | bad w o => rw [Qgj h0 hg ht] at hl; cases hl
   | tok kd tx nm n =>
    have hp := Qg ht
    rw [Qfr hg ht] at hl
    cases hs : scan (k + n) (r.drop n) with
    | bad w a => rw [hs] at hl; cases hl
    | ok l1 =>
     rw [hs] at hl
     cases hl
     obtain ⟨g1, g2⟩ := ih (r.drop n) (k + n) (by rw [List.length_drop]; omega) l1 hs
     rw [List.length_drop] at g1
     refine ⟨by simp only [List.length_cons]; omega, fun t htm => ?_⟩
     rcases List.mem_cons.1 htm with rfl | h2
     · exact tok_ok ht
     · exact g2 t h2
theorem Qrd {s : Txt} {l : List Tok} (h : lexP s = .ok l) : s.length ≤ 65536 ∧ l.length ≤ s.length ∧ ∀ t ∈ l, TkOk t := by
 unfold lexP at h
 split at h
 · cases h
 obtain ⟨g1, g2⟩ := scan_ok s.length s 0 (Nat.le_refl _) l h
 exact ⟨by omega, g1, g2⟩
theorem Ris.at {n : Nat} : ∀ {l : List Tok} {k : Nat}, Ris k n l → ∀ t ∈ l, t.at_ < n
 | [], _, _, t, ht => by cases ht
 | x :: l, _, h, t, ht => by
  rcases List.mem_cons.1 ht with rfl | h2
  · exact h.2.1
  · exact h.2.2.at t h2
def parseP (s : Txt) : Rs Pg := match lexP s with
 | .bad why a => .bad why a []
 | .ok toks => progD s.length 32 true toks 0
def PsA (w : World) (r : Rs Pg) (en : Ending) (w' : World) : Prop := match r with
 | .bad why at_ _ => en = .returned (.tuple #[.agg #[.slice none 0 0, .slice none 0 0, .slice none 0 0, .slice none 0 0, .slice none 0 0], .agg #[.int .i64 why, .int .i64 at_]]) ∧ Below w.heap.size w w'
 | .ok p _ _ => ∃ v, en = .returned (.tuple #[v, .agg #[.int .i64 0, .int .i64 0]]) ∧ VPg (fun b => w.heap.size ≤ b) w' v p ∧ Below w.heap.size w w'
theorem Kp.bel {rb : Nat} {w w' : World} (h : Kp rb w w') {B : Nat} (h1 : B ≤ rb) (h2 : B ≤ w.heap.size) : Below B w w' := h.below h2 h1
theorem rd_new {w : World} {v : Value} {toks : List Tok} {B e : Nat} (ho : w.ownsRow B 83 4 v toks.length (tokCells toks)) (hk : ∀ t ∈ toks, TkOk t ∧ t.at_ ≤ 65536) (hl : toks.length ≤ 65536) (he : e ≤ 65536) : Rd w.heap.size e (w.alloc (.cells #[v, .int .i64 (e : Int), .int .i64 0, .int .i64 0] 49)) toks 0 0 := by
 refine ⟨⟨v, heap_alloc_new w _, ?_⟩, fun t ht => ?_, hl, he⟩
 ·
  rcases Jdh ho with ⟨rfl, rfl⟩ | ⟨g, cap, rfl, hr⟩
  · exact ⟨none, 0, rfl, Nat.le_refl _, Nat.zero_le _, fun j t hj => by simp at hj⟩
  refine ⟨some ⟨g, 0, none⟩, cap, rfl, hr.le, hr.cm, fun j t hj => ⟨g, 0, rfl, hr.lt, ?_⟩⟩
  obtain ⟨c0, c1, c2, c3⟩ := hr.cells j t hj
  rw [Nat.zero_add]
  exact TokAt.same (w := w) ⟨c0, c1, c2, c3⟩ (Below.heap_alloc _ _ _ hr.lt)
 obtain ⟨⟨h1, h2, h3, h4⟩, h5⟩ := hk t ht
 exact ⟨by omega, h2, h3, h4, h5⟩
theorem Jax (s : ByteArray) (hs : s.size ≤ 281474976710656) (w : World) (hE : Env w) (hrd0 : ∀ rb w toks, lexP s.data.toList = .ok toks → Rd rb s.size w toks 0 0 → Calls Tryz.prog 12 #[.pointer (some ⟨rb, 0, none⟩)] w fun en w' => RdAns rb w (progD s.size 32 true toks 0) en w') :
  Calls Tryz.prog 5 #[.string s] w fun en w' => PsA w (parseP s.data.toList) en w' := by
 obtain ⟨w2, hw2⟩ : ∃ w2, w2 = (w.alloc pgZ).alloc ftZ := ⟨_, rfl⟩
 have b2 : Below w.heap.size w w2 := by rw [hw2]; exact ((Below.refl _ w).alloc (Nat.le_refl _) _).alloc (by simp) _
 have s2 : w2.heap.size = w.heap.size + 2 := by rw [hw2]; simp
 have p2 : w2.heap[w.heap.size]? = some pgZ := by rw [hw2, Below.heap_alloc _ _ _ (by simp)]; exact heap_alloc_new w _
 have f2 : w2.heap[w.heap.size + 1]? = some ftZ := by
  rw [hw2]
  have := heap_alloc_new (w.alloc pgZ) ftZ
  simpa using this
 have htk := Qu s hs w2 (hE.later b2)
 have HW2 : Hid (w2 = (w.alloc (.cells #[.slice none 0 0, .slice none 0 0, .slice none 0 0, .slice none 0 0, .slice none 0 0] 28)).alloc (.cells #[.int .i64 0, .int .i64 0] 31)) := hw2
 have K2 := hide (Ya b2 (Ya p2 (Ya f2 s2)))
 obtain ⟨PO, hPO⟩ : ∃ PO : Ending → World → Prop, PO = fun en w' => PsA w (parseP s.data.toList) en w' := ⟨_, rfl⟩
 rw [← hPO]
 have HPO := hide hPO
 have hri := Qwq s.data.toList
 have hsz : s.data.toList.length = s.size := (Qca s).symm
 clear b2 s2 p2 f2 hw2 hPO hE
 cases hq : lexP s.data.toList with
 | bad why at1 =>
  rw [hq] at htk hri
  clear hrd0
  have HE : Hid (PO = fun en w' => PsA w (.bad why (at1 : Int) []) en w') := by
   have h0 := Qa HPO
   unfold parseP at h0
   rw [hq] at h0
   exact h0
  have hz : (why != 0) = true := bne_iff_ne.2 hri.1
  clear hq HPO hri hsz
  go_enter Tryz.func5, Tryz.ntmps5
  go_wp2_with fail
  rw [← Qa HW2]
  refine htk.mono ?_
  clear htk HW2
  rintro en w3 ⟨v, rfl, hown, b3⟩
  obtain ⟨b2, p2, f2, s2⟩ := Qa K2
  have hs3 := b3.size
  obtain ⟨w4, hw4⟩ : ∃ w4, w4 = w3.alloc (.cells #[.int .i64 why, .int .i64 (at1 : Int)] 31) := ⟨_, rfl⟩
  have n4 : w4.heap[w3.heap.size]? = some (.cells #[.int .i64 why, .int .i64 (at1 : Int)] 31 (0, 0)) := nnw hw4
  have b4 : Below w2.heap.size w2 w4 := by rw [hw4]; exact b3.alloc b3.size _
  have p4 := (b4.block _ (Qag p2)).trans p2
  have f4 := (b4.block _ (Qag f2)).trans f2
  have b04 : Below w.heap.size w w4 := b2.trans (b4.mono (by omega))
  have hs4 := b4.size
  obtain ⟨x0, x1, x2, x3, x4, xf⟩ := cl5 p4
  obtain ⟨c0, c1, cf⟩ := cl2 n4
  obtain ⟨w5, hw5⟩ : ∃ w5, w5 = (((((w4.setCell ⟨w.heap.size, 0, none⟩ (.slice none 0 0)).setCell ⟨w.heap.size, 1, none⟩ (.slice none 0 0)).setCell ⟨w.heap.size, 2, none⟩ (.slice none 0 0)).setCell ⟨w.heap.size, 3, none⟩ (.slice none 0 0)).setCell ⟨w.heap.size, 4, none⟩ (.slice none 0 0)).drew := ⟨_, rfl⟩
  have ho5 : ∀ k, k ≠ w.heap.size → w5.heap[k]? = w4.heap[k]? := fun k hk => by
   rw [hw5, show ∀ v : World, v.drew.heap = v.heap from fun _ => rfl, hpS hk, hpS hk, hpS hk, hpS hk, hpS hk]
  have p5 : w5.heap[w.heap.size]? = some pgZ := by
   rw [hw5]
   exact (Qad (Qad (Qad (Qad (Qad p4 0 _) 1 _) 2 _) 3 _) 4 _).trans rfl
  have f5 := (ho5 (w.heap.size + 1) (by omega)).trans f4
  have n5 := (ho5 w3.heap.size (by omega)).trans n4
  obtain ⟨y0, y1, yf⟩ := cl2 f5
  have b05 : Below w.heap.size w w5 := by rw [hw5]; exact (((((b04.setCell (p := ⟨w.heap.size, 0, none⟩) (Nat.le_refl _) _).setCell (p := ⟨w.heap.size, 1, none⟩) (Nat.le_refl _) _).setCell (p := ⟨w.heap.size, 2, none⟩) (Nat.le_refl _) _).setCell (p := ⟨w.heap.size, 3, none⟩) (Nat.le_refl _) _).setCell (p := ⟨w.heap.size, 4, none⟩) (Nat.le_refl _) _).drew
  obtain ⟨w7, hw7⟩ : ∃ w7, w7 = (w5.setCell ⟨w.heap.size + 1, 0, none⟩ (.int .i64 why)).setCell ⟨w.heap.size + 1, 1, none⟩ (.int .i64 (at1 : Int)) := ⟨_, rfl⟩
  have ho7 : ∀ k, k ≠ w.heap.size + 1 → w7.heap[k]? = w5.heap[k]? := fun k hk => by rw [hw7, hpS hk, hpS hk]
  have f7 : w7.heap[w.heap.size + 1]? = some (.cells #[.int .i64 why, .int .i64 (at1 : Int)] 31 (0, 0)) := by rw [hw7]; exact (Qad (Qad f5 0 _) 1 _).trans rfl
  have p7 := (ho7 w.heap.size (by omega)).trans p5
  have n7 := (ho7 w3.heap.size (by omega)).trans n5
  have b07 : Below w.heap.size w w7 := by rw [hw7]; exact (b05.setCell (p := ⟨w.heap.size + 1, 0, none⟩) (by show w.heap.size ≤ w.heap.size + 1; omega) _).setCell (p := ⟨w.heap.size + 1, 1, none⟩) (by show w.heap.size ≤ w.heap.size + 1; omega) _
  have HN := hide (Ya n4 (Ya n5 n7))
  have HU := hide (Ya p7 (Ya f7 b07))
  have HW4 := hide hw4
  have HW5 := hide hw5
  have HW7 := hide hw7
  clear hown b3 b2 p2 f2 s2 hs3 hw4 n4 b4 p4 f4 b04 hs4 hw5 ho5 p5 f5 n5 b05 hw7 ho7 f7 p7 n7 b07 K2
  simp only [Out.why, Out.fa]
  go_wp2_with fail
  rw [← Qa HW4]
  clear HW4
  go_wp2_with fail
  refine Qit (m := 3) (ml := [(0, 1), (1, 1), (2, 0), (3, 0)]) (fun _ w' => w'.heap[w3.heap.size]? = some (.cells #[.int .i64 why, .int .i64 (at1 : Int)] 31 (0, 0))) mixedO (by kernel_rfl) rfl (by rfl) (by kernel_rfl) (fun PP hPP => ?_)
  refine Qac rfl (by kernel_rfl) (fun _ _ _ => by go_simp <;> rfl) ?_
  refine Qac rfl (by kernel_rfl) (fun f w' hw => by obtain ⟨u0, u1, uf⟩ := cl2 hw; go_simp <;> rfl) ?_
  refine Qaf rfl (Qa HN).1 (fun K hK => ?_)
  go_simp
  rw [← Qa HW5]
  refine hK _ _ ?_
  clear hK K HW5 x0 x1 x2 x3 x4 xf
  refine Qaf rfl (Qa HN).2.1 (fun K hK => ?_)
  go_simp
  rw [← Qa HW7]
  refine hK _ _ ?_
  clear hK K HW7 y0 y1 yf
  refine Qbx (Qa HN).2.2 (hPP _ _ ?_)
  clear hPP PP
  obtain ⟨p7, f7, b07⟩ := Qa HU
  obtain ⟨u0, u1, u2, u3, u4, uf⟩ := cl5 p7
  obtain ⟨t0, t1, tf⟩ := cl2 f7
  go_wp2_with fail
  refine bodyPost_ret (v := .tuple #[.agg #[.slice none 0 0, .slice none 0 0, .slice none 0 0, .slice none 0 0, .slice none 0 0], .agg #[.int .i64 why, .int .i64 (at1 : Int)]]) (by simp [results, Tryz.results5, go_sem, u0, u1, u2, u3, u4, t0, t1]) rfl ?_
  rw [Qa HE]
  exact ⟨rfl, b07⟩
 | ok toks =>
  rw [hq] at htk hri
  obtain ⟨g1, g2, g3⟩ := Qrd hq
  have HRD := hide (fun rb w h => hrd0 rb w toks hq h)
  clear hrd0
  have hat : ∀ t ∈ toks, TkOk t ∧ t.at_ ≤ 65536 := fun t ht => ⟨g3 t ht, by have := Ris.at hri t ht; omega⟩
  have HE : Hid (PO = fun en w' => PsA w (progD s.size 32 true toks 0) en w') := by
   have h0 := Qa HPO
   unfold parseP at h0
   rw [hq] at h0
   rw [← hsz]
   exact h0
  rw [hsz] at g1 g2
  have HT := hide (Ya hat (Ya g1 g2))
  clear hq HPO hri hsz hat g2 g3
  go_enter Tryz.func5, Tryz.ntmps5
  go_wp2_with fail
  rw [← Qa HW2]
  refine htk.mono ?_
  clear htk HW2
  rintro en w3 ⟨v, rfl, hown, b3⟩
  obtain ⟨b2, p2, f2, s2⟩ := Qa K2
  have hs3 := b3.size
  obtain ⟨hat, _, g2⟩ := Qa HT
  obtain ⟨w4, hw4⟩ : ∃ w4, w4 = w3.alloc ftZ := ⟨_, rfl⟩
  have n4 : w4.heap[w3.heap.size]? = some ftZ := nnw hw4
  have b4 : Below w2.heap.size w2 w4 := by rw [hw4]; exact b3.alloc b3.size _
  have s4 : w4.heap.size = w3.heap.size + 1 := by rw [hw4]; simp
  have ho4 : w4.ownsRow w2.heap.size 83 4 v toks.length (tokCells toks) := by rw [hw4]; exact World.ownsRow.alloc hown _
  obtain ⟨w5, hw5⟩ : ∃ w5, w5 = w4.alloc (.cells #[v, .int .i64 (s.size : Int), .int .i64 0, .int .i64 0] 49) := ⟨_, rfl⟩
  have hR : Rd w4.heap.size s.size w5 toks 0 0 := by rw [hw5]; exact rd_new ho4 hat (by omega) g1
  have b5 : Below w2.heap.size w2 w5 := by rw [hw5]; exact b4.alloc b4.size _
  have s5 : w5.heap.size = w3.heap.size + 2 := by rw [hw5]; simp [s4]
  have p5 := (b5.block _ (Qag p2)).trans p2
  have f5 := (b5.block _ (Qag f2)).trans f2
  have b05 : Below w.heap.size w w5 := b2.trans (b5.mono (by omega))
  have hrd := Qa HRD _ _ hR
  have c0 : w4.cell? ⟨w3.heap.size, 0, none⟩ = some (.int .i64 0) := by rw [Qab n4]; rfl
  obtain ⟨vs, vn, vc, ev⟩ : ∃ vs vn vc, v = .slice vs vn vc := by
   rcases Jdh hown with ⟨e, _⟩ | ⟨g, cap, e, _⟩
   · exact ⟨_, _, _, e⟩
   · exact ⟨_, _, _, e⟩
  have hsl : s.size ≤ 65536 := g1
  have K5 := hide (Ya b05 (Ya p5 (Ya f5 (Ya (show w.heap.size + 2 ≤ w4.heap.size by omega) (show w4.heap.size < w5.heap.size by omega)))))
  have HW4 : Hid (w4 = w3.alloc (.cells #[.int .i64 0, .int .i64 0] 31)) := hw4
  rw [ev] at hw5
  have HW5 := hide hw5
  have HS4 := hide s4
  subst ev
  clear hown b3 b2 p2 f2 s2 hs3 hat g2 hw4 n4 b4 s4 ho4 hw5 hR b5 s5 p5 f5 b05 K2 g1
  simp only [Out.why, Out.fa]
  go_wp2_with fail
  rw [← Qa HW4]
  go_wp2_with fail
  rw [← Qa HW5, show w3.heap.size + 1 = w4.heap.size from (Qa HS4).symm]
  clear HW4 HW5 HS4 c0
  cases hq : progD s.size 32 true toks 0 with
  | bad why at1 l4 =>
   rw [hq] at hrd
   have HE2 : Hid (PO = fun en w' => PsA w (.bad why at1 l4) en w') := by
    have h0 := Qa HE
    rw [hq] at h0
    exact h0
   clear hq HE
   refine hrd.mono ?_
   clear hrd
   rintro en w6 ⟨rfl, k6⟩
   obtain ⟨b05, p5, f5, g4, g5⟩ := Qa K5
   have p6 := k6.keep p5 (by omega)
   have f6 := k6.keep f5 (by omega)
   have b06 : Below w.heap.size w w6 := b05.trans (k6.bel (by omega) b05.size)
   obtain ⟨x0, x1, x2, x3, x4, xf⟩ := cl5 p6
   obtain ⟨w7, hw7⟩ : ∃ w7, w7 = (((((w6.setCell ⟨w.heap.size, 0, none⟩ (.slice none 0 0)).setCell ⟨w.heap.size, 1, none⟩ (.slice none 0 0)).setCell ⟨w.heap.size, 2, none⟩ (.slice none 0 0)).setCell ⟨w.heap.size, 3, none⟩ (.slice none 0 0)).setCell ⟨w.heap.size, 4, none⟩ (.slice none 0 0)) := ⟨_, rfl⟩
   have f7 : w7.heap[w.heap.size + 1]? = some ftZ := by
    have hk : w.heap.size + 1 ≠ w.heap.size := by omega
    rw [hw7, hpS hk, hpS hk, hpS hk, hpS hk, hpS hk]; exact f6
   have p7 : w7.heap[w.heap.size]? = some pgZ := by rw [hw7]; exact (Qad (Qad (Qad (Qad (Qad p6 0 _) 1 _) 2 _) 3 _) 4 _).trans rfl
   have b07 : Below w.heap.size w w7 := by rw [hw7]; exact ((((b06.setCell (p := ⟨w.heap.size, 0, none⟩) (Nat.le_refl _) _).setCell (p := ⟨w.heap.size, 1, none⟩) (Nat.le_refl _) _).setCell (p := ⟨w.heap.size, 2, none⟩) (Nat.le_refl _) _).setCell (p := ⟨w.heap.size, 3, none⟩) (Nat.le_refl _) _).setCell (p := ⟨w.heap.size, 4, none⟩) (Nat.le_refl _) _
   obtain ⟨y0, y1, yf⟩ := cl2 f7
   obtain ⟨w9, hw9⟩ : ∃ w9, w9 = (w7.setCell ⟨w.heap.size + 1, 0, none⟩ (.int .i64 why)).setCell ⟨w.heap.size + 1, 1, none⟩ (.int .i64 at1) := ⟨_, rfl⟩
   have f9 : w9.heap[w.heap.size + 1]? = some (.cells #[.int .i64 why, .int .i64 at1] 31 (0, 0)) := by rw [hw9]; exact (Qad (Qad f7 0 _) 1 _).trans rfl
   have p9 : w9.heap[w.heap.size]? = some pgZ := by
    have hk : w.heap.size ≠ w.heap.size + 1 := by omega
    rw [hw9, hpS hk, hpS hk]; exact p7
   have b09 : Below w.heap.size w w9 := by rw [hw9]; exact (b07.setCell (p := ⟨w.heap.size + 1, 0, none⟩) (by show w.heap.size ≤ w.heap.size + 1; omega) _).setCell (p := ⟨w.heap.size + 1, 1, none⟩) (by show w.heap.size ≤ w.heap.size + 1; omega) _
   have HU := hide (Ya p9 (Ya f9 b09))
   have HW9 := hide hw9
   clear b05 p5 f5 g4 g5 p6 f6 b06 f7 p7 b07 hw9 f9 p9 b09 K5 k6
   subst hw7
   go_wp2_with fail
   rw [← Qa HW9]
   obtain ⟨p9, f9, b09⟩ := Qa HU
   obtain ⟨u0, u1, u2, u3, u4, uf⟩ := cl5 p9
   obtain ⟨t0, t1, tf⟩ := cl2 f9
   clear x0 x1 x2 x3 x4 xf y0 y1 yf HW9 HU
   refine bodyPost_ret (v := .tuple #[.agg #[.slice none 0 0, .slice none 0 0, .slice none 0 0, .slice none 0 0, .slice none 0 0], .agg #[.int .i64 why, .int .i64 at1]]) (by simp [results, Tryz.results5, go_sem, u0, u1, u2, u3, u4, t0, t1]) rfl ?_
   rw [Qa HE2]
   exact ⟨rfl, b09⟩
  | ok p l4 i4 =>
   rw [hq] at hrd
   have HE2 : Hid (PO = fun en w' => PsA w (.ok p l4 i4) en w') := by
    have h0 := Qa HE
    rw [hq] at h0
    exact h0
   clear hq HE
   refine hrd.mono ?_
   clear hrd
   rintro en w6 ⟨_, rfl, ⟨a0, m0, q0, a1, m1, q1, a2, m2, q2, a3, m3, q3, a4, m4, q4, rfl, hP⟩, k6⟩
   obtain ⟨b05, p5, f5, g4, g5⟩ := Qa K5
   have p6 := k6.keep p5 (by omega)
   have f6 := k6.keep f5 (by omega)
   have b06 : Below w.heap.size w w6 := b05.trans (k6.bel (by omega) b05.size)
   obtain ⟨x0, x1, x2, x3, x4, xf⟩ := cl5 p6
   obtain ⟨w7, hw7⟩ : ∃ w7, w7 = (((((w6.setCell ⟨w.heap.size, 0, none⟩ (.slice a0 m0 q0)).setCell ⟨w.heap.size, 1, none⟩ (.slice a1 m1 q1)).setCell ⟨w.heap.size, 2, none⟩ (.slice a2 m2 q2)).setCell ⟨w.heap.size, 3, none⟩ (.slice a3 m3 q3)).setCell ⟨w.heap.size, 4, none⟩ (.slice a4 m4 q4)) := ⟨_, rfl⟩
   have ho7 : ∀ k, k ≠ w.heap.size → w7.heap[k]? = w6.heap[k]? := fun k hk => by rw [hw7, hpS hk, hpS hk, hpS hk, hpS hk, hpS hk]
   have f7 : w7.heap[w.heap.size + 1]? = some ftZ := (ho7 _ (by omega)).trans f6
   have p7 : w7.heap[w.heap.size]? = some (.cells #[.slice a0 m0 q0, .slice a1 m1 q1, .slice a2 m2 q2, .slice a3 m3 q3, .slice a4 m4 q4] 28 (0, 0)) := by rw [hw7]; exact (Qad (Qad (Qad (Qad (Qad p6 0 _) 1 _) 2 _) 3 _) 4 _).trans rfl
   have b07 : Below w.heap.size w w7 := by rw [hw7]; exact ((((b06.setCell (p := ⟨w.heap.size, 0, none⟩) (Nat.le_refl _) _).setCell (p := ⟨w.heap.size, 1, none⟩) (Nat.le_refl _) _).setCell (p := ⟨w.heap.size, 2, none⟩) (Nat.le_refl _) _).setCell (p := ⟨w.heap.size, 3, none⟩) (Nat.le_refl _) _).setCell (p := ⟨w.heap.size, 4, none⟩) (Nat.le_refl _) _
   obtain ⟨y0, y1, yf⟩ := cl2 f7
   obtain ⟨w9, hw9⟩ : ∃ w9, w9 = (w7.setCell ⟨w.heap.size + 1, 0, none⟩ (.int .i64 0)).setCell ⟨w.heap.size + 1, 1, none⟩ (.int .i64 0) := ⟨_, rfl⟩
   have ho9 : ∀ k, k ≠ w.heap.size + 1 → w9.heap[k]? = w7.heap[k]? := fun k hk => by rw [hw9, hpS hk, hpS hk]
   have f9 : w9.heap[w.heap.size + 1]? = some (.cells #[.int .i64 0, .int .i64 0] 31 (0, 0)) := by rw [hw9]; exact (Qad (Qad f7 0 _) 1 _).trans rfl
   have p9 := (ho9 w.heap.size (by omega)).trans p7
   have b09 : Below w.heap.size w w9 := by rw [hw9]; exact (b07.setCell (p := ⟨w.heap.size + 1, 0, none⟩) (by show w.heap.size ≤ w.heap.size + 1; omega) _).setCell (p := ⟨w.heap.size + 1, 1, none⟩) (by show w.heap.size ≤ w.heap.size + 1; omega) _
   have hsz : w6.heap.size ≤ w9.heap.size := by rw [hw9, hw7]; simp [World.setCell]
   have hP9 : VPg (fun b => w.heap.size ≤ b) w9 (.agg #[.slice a0 m0 q0, .slice a1 m1 q1, .slice a2 m2 q2, .slice a3 m3 q3, .slice a4 m4 q4]) p := ⟨_, _, _, _, _, _, _, _, _, _, _, _, _, _, _, rfl, Qao.mono _ _ _ _ _ (Qao.same _ _ w9 _ _ hP hsz (fun b hb _ => by have hb' : w5.heap.size ≤ b := hb; exact (ho9 b (by omega)).trans (ho7 b (by omega)))) (fun b _ hb => by have hb' : w5.heap.size ≤ b := hb; omega)⟩
   have HU := hide (Ya p9 (Ya f9 (Ya hP9 b09)))
   have HW9 := hide hw9
   clear b05 p5 f5 g4 g5 p6 f6 b06 ho7 f7 p7 b07 hw9 ho9 f9 p9 b09 hsz hP9 hP K5 k6
   subst hw7
   go_wp2_with fail
   rw [← Qa HW9]
   obtain ⟨p9, f9, hP9, b09⟩ := Qa HU
   obtain ⟨u0, u1, u2, u3, u4, uf⟩ := cl5 p9
   obtain ⟨t0, t1, tf⟩ := cl2 f9
   clear x0 x1 x2 x3 x4 xf y0 y1 yf HW9 HU
   refine bodyPost_ret (v := .tuple #[.agg #[.slice a0 m0 q0, .slice a1 m1 q1, .slice a2 m2 q2, .slice a3 m3 q3, .slice a4 m4 q4], .agg #[.int .i64 0, .int .i64 0]]) (by simp [results, Tryz.results5, go_sem, u0, u1, u2, u3, u4, t0, t1]) rfl ?_
   rw [Qa HE2]
   exact ⟨_, rfl, hP9, b09⟩
theorem Qdw (s : ByteArray) (hs : s.size ≤ 281474976710656) (w : World) (hE : Env w) :
  Calls Tryz.prog 5 #[.string s] w fun en w' => PsA w (parseP s.data.toList) en w' := Jax s hs w hE (fun _ _ _ _ h => Jbd h)
end
section
open Go.RowKit Go.Maps
def Tbl (B : Nat) (w : World) : Prop := Lib.TabIs Tryz.prog w "internal/strconv.uint64pow10" .u64 Lib.pow10Tab ∧ ∀ g, Tryz.prog.globalNamed "internal/strconv.uint64pow10" = some g → g < B
theorem tbl_var {name : String} {g B : Nat} {w w' : World} {cs : Array Value} (hg : Tryz.prog.globalNamed name = some g) (hB : g < B) (h : w.var? Tryz.prog name = some cs) (b : Below B w w') : w'.var? Tryz.prog name = some cs := by
 unfold World.var? at *
 rw [hg] at *
 simp only [Option.bind_some] at *
 rw [b.block g hB]; exact h
theorem Tbl.below {B : Nat} {w w' : World} (h : Tbl B w) (b : Below B w w') : Tbl B w' := by
 obtain ⟨g, hg⟩ : ∃ g, Tryz.prog.globalNamed "internal/strconv.uint64pow10" = some g := by
  have := h.1
  unfold Lib.TabIs World.var? at this
  cases e : Tryz.prog.globalNamed "internal/strconv.uint64pow10" with
  | none => rw [e] at this; cases this
  | some g => exact ⟨g, rfl⟩
 exact ⟨tbl_var hg (h.2 g hg) h.1 b, h.2⟩
theorem Tbl.more {B B' : Nat} {w : World} (h : Tbl B w) (hB : B ≤ B') : Tbl B' w := ⟨h.1, fun g hg => Nat.lt_of_lt_of_le (h.2 g hg) hB⟩
structure Wr (B b : Nat) (c : Txt) (lg : Bool) (w : World) : Prop where
 le : B ≤ b
 few : c.length ≤ 65536
 tbl : Tbl B w
 box : ∃ p v, w.heap[b]? = some (.cells #[p, v, .bool lg] 55 (0, 0)) ∧ (p = .pointer none ∨ p = .pointer (some ⟨b, 0, none⟩)) ∧ w.ownsRowF B 5 1 v c.length (Lib.byteCells c) ∧ v.ownBlock ≠ some b
structure Kept (B b : Nat) (w w' : World) : Prop where
 below : Below B w w'
 others : Lib.OthersKept 5 (some b) w w'
theorem Kept.refl (B b : Nat) (w : World) : Kept B b w w := ⟨Below.refl _ _, Lib.OthersKept.refl _ _ _⟩
theorem Kept.trans {B b : Nat} {u w w' : World} (h : Kept B b u w) (k : Kept B b w w') : Kept B b u w' := ⟨h.below.trans k.below, h.others.trans k.others⟩
theorem Kept.set {B b : Nat} {u w : World} (h : Kept B b u w) (hB : B ≤ b) (i : Nat) (v : Value) : Kept B b u (w.setCell ⟨b, i, none⟩ v) := ⟨h.below.setCell (p := ⟨b, i, none⟩) hB v, h.others.setCell ⟨b, i, none⟩ rfl v⟩
def WT (c : Txt) (lg : Bool) (t : Txt) (c' : Txt) (lg' : Bool) : Prop := (lg = true → lg' = true) ∧ (lg = false → c.length + t.length ≤ 65536 → c' = c ++ t ∧ lg' = false) ∧ (lg = false → 65536 < c.length + t.length → lg' = true)
theorem WT.refl (c : Txt) (lg : Bool) (h : c.length ≤ 65536) : WT c lg [] c lg := ⟨fun e => e, fun e _ => ⟨(List.append_nil _).symm, e⟩, fun _ h2 => by simp at h2; omega⟩
theorem WT.trans {c c1 c2 t u : Txt} {l l1 l2 : Bool} (h : WT c l t c1 l1) (k : WT c1 l1 u c2 l2) : WT c l (t ++ u) c2 l2 := by
 refine ⟨fun e => k.1 (h.1 e), fun e hl => ?_, fun e hl => ?_⟩
 ·
  rw [List.length_append] at hl
  obtain ⟨rfl, e1⟩ := h.2.1 e (by omega)
  obtain ⟨rfl, e2⟩ := k.2.1 e1 (by rw [List.length_append]; omega)
  exact ⟨List.append_assoc _ _ _, e2⟩
 rw [List.length_append] at hl
 by_cases h1 : c.length + t.length ≤ 65536
 ·
  obtain ⟨rfl, e1⟩ := h.2.1 e h1
  exact k.2.2 e1 (by rw [List.length_append]; omega)
 · exact k.1 (h.2.2 e (by omega))
theorem WT.long {c c1 t : Txt} {l1 : Bool} (h : WT c true t c1 l1) (u : Txt) : WT c true u c1 l1 := ⟨h.1, (fun e => by cases e), (fun e => by cases e)⟩
theorem cl3w {w : World} {b : Nat} {T : TypeId} {v0 v1 v2 : Value} (h : w.heap[b]? = some (.cells #[v0, v1, v2] T (0, 0))) : w.cell? ⟨b, 0, none⟩ = some v0 ∧ w.cell? ⟨b, 1, none⟩ = some v1 ∧ w.cell? ⟨b, 2, none⟩ = some v2 ∧ w.shape? b = some (T, 3) ∧ ∀ o, w.frozen? ⟨b, o, none⟩ = false :=
 ⟨(Qab h 0).trans rfl, (Qab h 1).trans rfl, (Qab h 2).trans rfl, by simp [World.shape?, h], fun o => by simp [World.frozen?, h]⟩
theorem Qub {b : Nat} {w : World} {p v q : Value} (hb : w.heap[b]? = some (.cells #[p, v, q] 55 (0, 0))) (hp : p = .pointer none ∨ p = .pointer (some ⟨b, 0, none⟩)) :
  Calls Tryz.prog 127 #[.pointer (some ⟨b, 0, none⟩)] w fun e w' => e = .returned (.tuple #[]) ∧ w' = w.setCell ⟨b, 0, none⟩ (.pointer (some ⟨b, 0, none⟩)) ∨ e = .returned (.tuple #[]) ∧ w' = w ∧ p = .pointer (some ⟨b, 0, none⟩) := by
 obtain ⟨j, hj, hjs⟩ := Option.map_eq_some_iff.1 (show (Tryz.prog.info? 53).map (·.size) = some 2 by kernel_rfl)
 obtain ⟨h0, h1, h2, hsh, hfz⟩ := cl3w hb
 rcases hp with rfl | rfl
 ·
  go_enter Tryz.func127, Tryz.ntmps127
  go_wp2_with fail
  rw [Lib.run_to_unsafe w ⟨b, 0, none⟩ Tryz.underlying50 Tryz.underlying202 hj (by rw [hjs]; decide) hsh (Nat.zero_lt_succ 2)]
  simp only [Result.andThen]
  rw [Oper.upon_value]
  go_wp2_with fail
  rw [run_callFunc_extern Tryz.func145 (by kernel_rfl) (by kernel_rfl) (by kernel_rfl) (e := Extern.AbiNoEscape.same) (by kernel_rfl), Lib.run_noEscape]
  simp only [Result.andThen]
  rw [Oper.upon_value]
  go_wp2_with fail
  rw [Lib.run_from_unsafe w ⟨b, 0, none⟩ Tryz.underlying202 Tryz.underlying50 hj hsh (by kernel_rfl)]
  simp only [Result.andThen]
  rw [Oper.upon_value]
  go_wp2_with fail
  go_end0
  exact .inl ⟨rfl, rfl⟩
 go_enter Tryz.func127, Tryz.ntmps127
 go_wp2_with fail
 rw [Lib.run_neq_ptr_same w _ Tryz.underlying50 hj]
 go_wp2_with fail
 go_end0
 exact .inr ⟨rfl, rfl, trivial⟩
theorem Qzj {B b : Nat} {c : Txt} {lg : Bool} {w : World} (h : Wr B b c lg w) :
  Calls Tryz.prog 127 #[.pointer (some ⟨b, 0, none⟩)] w fun e w' => e = .returned (.tuple #[]) ∧ Kept B b w w' ∧ ∃ v, w'.heap[b]? = some (.cells #[.pointer (some ⟨b, 0, none⟩), v, .bool lg] 55 (0, 0)) ∧ w'.ownsRowF B 5 1 v c.length (Lib.byteCells c) ∧ v.ownBlock ≠ some b := by
 obtain ⟨hB, _, _, p, v, hb, hp, ho, hn⟩ := h
 refine (Qub hb hp).mono ?_
 rintro e w' (⟨rfl, rfl⟩ | ⟨rfl, rfl, rfl⟩)
 ·
  refine ⟨rfl, (Kept.refl B b w).set hB 0 _, v, (Qad hb 0 _).trans rfl, ?_, hn⟩
  exact ho.kept (row := some b) ⟨rfl, rfl, rfl, by simp [World.setCell], fun k _ hk => hpS (fun e => hk (by simp [e]))⟩ (Or.inr hn)
 · exact ⟨rfl, Kept.refl _ _ _, v, hb, ho, hn⟩
theorem info5w : ∃ i0 : TypeInfo, Tryz.prog.info? 5 = some i0 ∧ i0.zero = some (.int .u8 0) ∧ i0.size = 1 ∧ i0.bytes = 1 := by
 have h : (Tryz.prog.info? 5).map (fun i => (i.zero, i.size, i.bytes)) = some (some (.int .u8 0), 1, 1) := by kernel_rfl
 obtain ⟨i0, hi, hi3⟩ := Option.map_eq_some_iff.1 h
 simp only [Prod.mk.injEq] at hi3
 exact ⟨i0, hi, hi3⟩
theorem wws_any {B b : Nat} {c : Txt} {lg : Bool} {w : World} (h : Wr B b c lg w) (s : ByteArray) (hl : c.length + s.size ≤ 65536) :
  Calls Tryz.prog 99 #[.pointer (some ⟨b, 0, none⟩), .string s] w fun e w' => (∃ v, e = .returned v) ∧ Wr B b (c ++ s.data.toList) lg w' ∧ Kept B b w w' := by
 obtain ⟨i0, hi, hz0, hz1, hz2⟩ := info5w
 have hcl : (Lib.byteCells c).length = c.length := Lib.byteCells_length c
 have hsl : s.data.toList.length = s.size := Array.length_toList
 have hck := Qzj h
 have hB := h.le
 have HTB := hide h.tbl
 obtain ⟨_, _, hb0, _⟩ := h.box
 have hbl := Qag hb0
 clear h hb0
 go_enter Tryz.func99, Tryz.ntmps99
 go_wp2_with fail
 refine hck.mono ?_
 clear hck
 rintro e w1 ⟨rfl, b1, v, hbk, hown, hne⟩
 obtain ⟨c0, c1, c2, _, cf⟩ := cl3w hbk
 have hs1 := b1.below.size
 go_wp2_with (at_builtin; refine Lib.wpList_append_own_stringF _ rfl _ _ 51 9 rfl B 5 i0 Tryz.underlying51 Tryz.underlying9 hi hz0 hz1 hz2 _ _ _ rfl hown s rfl ?q3 ?q4 ?q5 ?_)
 case q3 => unfold maxLen; omega
 case q4 => omega
 case q5 => omega
 intro v' w2 hown' hgrow _
 have hlt : b < w1.heap.size := Qag hbk
 have hb2 := (hgrow.block b hlt (fun e => hne e.symm)).trans hbk
 obtain ⟨d0, d1, d2, _, df⟩ := cl3w hb2
 obtain ⟨ao, n', cap, rfl⟩ : ∃ ao n' cap, v' = .slice ao n' cap := by
  rcases hown'.2 with ⟨hv, _⟩ | ⟨g, cap, cur, fz, hv, _⟩
  · exact ⟨_, _, _, hv⟩
  · exact ⟨_, _, _, hv⟩
 have hbw : Kept B b w w2 := ⟨b1.below.grown hgrow (by omega) (fun k hk => (hown.lt k hk).1), b1.others.grown hgrow (Lib.ownsRowF_kind hown)⟩
 have hnb : (Value.slice ao n' cap).ownBlock ≠ some b := Lib.ownBlock_neF hown' hb2 (by decide)
 have hE : Hid (Wr B b (c ++ s.data.toList) lg (w2.setCell ⟨b, 1, none⟩ (.slice ao n' cap)) ∧ Kept B b w (w2.setCell ⟨b, 1, none⟩ (.slice ao n' cap))) := by
  refine ⟨⟨hB, by rw [List.length_append]; omega, (Qa HTB).below (hbw.set hB 1 _).below, _, _, (Qad hb2 1 _).trans rfl, .inr rfl, ?_, hnb⟩, hbw.set hB 1 _⟩
  have e1 : Lib.byteCells (c ++ s.data.toList) = Lib.byteCells c ++ Lib.strCells s := by simp [Lib.byteCells, Lib.strCells]
  rw [e1, List.length_append, hsl]
  exact hown'.kept (row := some b) ⟨rfl, rfl, rfl, by simp [World.setCell], fun k _ hk => hpS (fun e => hk (by simp [e]))⟩ (Or.inr hnb)
 clear hown' hgrow hb2 hbw hnb hown hbk b1
 go_wp2_with fail
 go_ret2
 exact ⟨⟨_, rfl⟩, Qa hE⟩
end
section
open Go.RowKit Go.Maps
def WrA (B b : Nat) (c : Txt) (lg : Bool) (t : Txt) (w : World) (en : Ending) (w' : World) : Prop := en = .returned (.tuple #[]) ∧ Kept B b w w' ∧ ∃ c' lg', Wr B b c' lg' w' ∧ WT c lg t c' lg'
theorem Wr.setL {B b : Nat} {c : Txt} {lg : Bool} {w : World} (h : Wr B b c lg w) (l2 : Bool) : Wr B b c l2 (w.setCell ⟨b, 2, none⟩ (.bool l2)) := by
 obtain ⟨p, v, hb, hp, ho, hn⟩ := h.box
 exact ⟨h.le, h.few, h.tbl.below ((Kept.refl B b w).set h.le 2 _).below, p, v, (Qad hb 2 _).trans rfl, hp, ho.kept (row := some b) ⟨rfl, rfl, rfl, by simp [World.setCell], fun k _ hk => hpS (fun e => hk (by simp [e]))⟩ (Or.inr hn), hn⟩
theorem Jbv {B b : Nat} {c : Txt} {lg : Bool} {w : World} (h : Wr B b c lg w) :
  Calls Tryz.prog 98 #[.pointer (some ⟨b, 0, none⟩)] w fun e w' => e = .returned (.int .i64 (c.length : Int)) ∧ w' = w := by
 obtain ⟨p, v, hb, hp, ho, hn⟩ := h.box
 obtain ⟨c0, c1, c2, _, cf⟩ := cl3w hb
 obtain ⟨a, cap, rfl⟩ : ∃ a cap, v = .slice a c.length cap := by
  rcases ho.2 with ⟨hv, e⟩ | ⟨g, cap, cur, fz, hv, _⟩
  · exact ⟨none, 0, by rw [hv, e]⟩
  · exact ⟨_, _, hv⟩
 clear h hb hp ho hn c0 c2
 go_enter Tryz.func98, Tryz.ntmps98
 go_wp2_with fail
 go_ret
 exact ⟨rfl, rfl⟩
theorem Qbn {B b : Nat} {c : Txt} {lg : Bool} {w : World} (h : Wr B b c lg w) (s : ByteArray) (hs : s.size ≤ 140737488355328) :
  Calls Tryz.prog 62 #[.pointer (some ⟨b, 0, none⟩), .string s] w fun e w' => WrA B b c lg s.data.toList w e w' := by
 have hsl : s.data.toList.length = s.size := Array.length_toList
 obtain ⟨p, v, hb, _⟩ := h.box
 obtain ⟨c0, c1, c2, _, cf⟩ := cl3w hb
 have hk : Kept B b w (w.setCell ⟨b, 2, none⟩ (.bool true)) := (Kept.refl B b w).set h.le 2 _
 have hk0 : Kept B b w (w.setCell ⟨b, 2, none⟩ (.bool false)) := (Kept.refl B b w).set h.le 2 _
 have hfw := h.few
 cases lg
 ·
  have hlen := Jbv h
  by_cases hr : 65536 < c.length + s.size
  ·
   have g1 : decide ((65536 : Int) < (c.length : Int) + (s.size : Int)) = true := decide_eq_true (by omega)
   have HE := hide (Ya hk (h.setL true))
   clear hb h hk hk0 c0 c1
   go_enter Tryz.func62, Tryz.ntmps62
   go_wp2_with fail
   refine hlen.mono ?_
   clear hlen
   rintro e w1 ⟨rfl, rfl⟩
   go_wp2_with fail
   go_end0
   exact ⟨rfl, (Qa HE).1, c, true, (Qa HE).2, (fun e => by cases e), (fun _ h2 => by omega), fun _ _ => rfl⟩
  have g1 : decide ((65536 : Int) < (c.length : Int) + (s.size : Int)) = false := decide_eq_false (by omega)
  have hws := wws_any (h.setL false) s (by omega)
  have HE := hide hk0
  clear hb h hk hk0 c0 c1
  go_enter Tryz.func62, Tryz.ntmps62
  go_wp2_with fail
  refine hlen.mono ?_
  clear hlen
  rintro e w1 ⟨rfl, rfl⟩
  go_wp2_with fail
  refine hws.mono ?_
  clear hws
  rintro e w2 ⟨⟨v2, rfl⟩, h2, k2⟩
  have H2 := hide (Ya h2 k2)
  clear h2 k2
  go_wp2_with fail
  go_end0
  obtain ⟨h2, k2⟩ := Qa H2
  exact ⟨rfl, (Qa HE).trans k2, _, false, h2, (fun e => by cases e), fun _ _ => ⟨rfl, rfl⟩, (fun _ h3 => by omega)⟩
 have HE := hide (Ya hk (h.setL true))
 clear hb h hk hk0 c0 c1
 go_enter Tryz.func62, Tryz.ntmps62
 go_wp2_with fail
 go_end0
 exact ⟨rfl, (Qa HE).1, c, true, (Qa HE).2, fun e => e, (fun e => by cases e), (fun e => by cases e)⟩
end
section
open Go.RowKit Go.Maps
def TsB (b g : Nat) (w : World) (ts : List Txt) : Prop := ∃ cs, w.heap[g]? = some (.cells cs 9 (0, 0)) ∧ g ≠ b ∧ ∀ (j : Nat) (t : Txt), ts[j]? = some t → cs[j]? = some (str t)
theorem TsB.kept {B b g : Nat} {w w' : World} {ts : List Txt} (h : TsB b g w ts) (k : Kept B b w w') : TsB b g w' ts := by
 obtain ⟨cs, hg, hn, hc⟩ := h
 exact ⟨cs, k.others g _ hg (fun e => hn (by simpa using e)) (fun c fz e => by cases e), hn, hc⟩
theorem Qhw {B b : Nat} {c : Txt} {lg : Bool} {w : World} (h : Wr B b c lg w) {g cap : Nat} {ts : List Txt} (hT : TsB b g w ts) (hz : ∀ t ∈ ts, t.length ≤ 140737488355328) (hl : ts.length ≤ 64) :
  Calls Tryz.prog 63 #[.pointer (some ⟨b, 0, none⟩), .slice (some ⟨g, 0, none⟩) ts.length cap] w fun e w' => WrA B b c lg ts.flatten w e w' := by
 have HT := hide hT
 have HZ := hide hz
 have HL := hide hl
 have HH := hide h
 obtain ⟨n, hn⟩ : ∃ n, ts.length = n := ⟨_, rfl⟩
 rw [hn]
 have HN := hide hn
 have hn64 : n ≤ 64 := by omega
 clear h hT hz hl hn
 go_enter Tryz.func63, Tryz.ntmps63
 go_wp2_with fail
 go_loopw [5, 8] (fun _ v8 wr => ∃ (j : Nat) (c1 : Txt) (l1 : Bool), v8 = .int .i64 (j : Int) ∧ j ≤ n ∧ Hid (Kept B b w wr ∧ Wr B b c1 l1 wr ∧ WT c lg (ts.take j).flatten c1 l1)) (fun _ v8 _ => n - (intOf v8).toNat)
 case atStart => exact ⟨0, c, lg, rfl, Nat.zero_le _, hide ⟨Kept.refl _ _ _, Qa HH, WT.refl _ _ (Qa HH).few⟩⟩
 obtain ⟨j, c1, l1, rfl, hj, HI⟩ := hrel
 by_cases hlt : j < n
 ·
  obtain ⟨t, ht⟩ : ∃ t, ts[j]? = some t := ⟨ts[j]'(by rw [Qa HN]; exact hlt), List.getElem?_eq_getElem _⟩
  obtain ⟨cs, hg, _, hc⟩ := (Qa HT).kept (Qa HI).1
  have c1' : wr.cell? ⟨g, j, none⟩ = some (str t) := (Qab hg j).trans (hc j t ht)
  have had := Qbn (Qa HI).2.1 ⟨t.toArray⟩ (by have := Qa HZ t (List.mem_of_getElem? ht); simpa [ByteArray.size] using this)
  rw [show (Value.string ⟨t.toArray⟩) = str t from rfl] at had
  have HTK := hide (show (ts.take (j + 1)).flatten = (ts.take j).flatten ++ t by rw [List.take_add_one, ht]; simp)
  clear hg hc ht
  go_wp2_with fail
  refine had.mono ?_
  clear had
  rintro en w2 ⟨rfl, k2, c2, l2, h2, t2⟩
  have H2 := hide (Ya k2 (Ya h2 t2))
  clear k2 h2 t2 c1'
  go_wp2_with fail
  go_roundw
  case rel =>
   obtain ⟨k2, h2, t2⟩ := Qa H2
   refine ⟨j + 1, c2, l2, by go_num, by omega, hide ⟨(Qa HI).1.trans k2, h2, ?_⟩⟩
   rw [Qa HTK]
   exact (Qa HI).2.2.trans t2
  case measure => simp [intOf]; omega
 have ej : j = n := by omega
 have HE := hide (show ts.take j = ts by rw [ej, ← Qa HN]; exact List.take_length)
 clear ej
 go_wp2_with fail
 go_end0
 refine ⟨rfl, (Qa HI).1, c1, l1, (Qa HI).2.1, ?_⟩
 have := (Qa HI).2.2
 rw [Qa HE] at this
 exact this
end
section
open Go.RowKit Go.Maps
theorem Wr.lt {B b : Nat} {c : Txt} {lg : Bool} {w : World} (h : Wr B b c lg w) : b < w.heap.size := by
 obtain ⟨_, _, hb, _⟩ := h.box
 exact Qag hb
theorem Wr.later {B b : Nat} {c : Txt} {lg : Bool} {w w' : World} (h : Wr B b c lg w) (k : Below w.heap.size w w') : Wr B b c lg w' := by
 obtain ⟨p, v, hb, hp, ho, hn⟩ := h.box
 exact ⟨h.le, h.few, h.tbl.below (k.mono (Nat.le_trans h.le (Nat.le_of_lt (Qag hb)))), p, v, (k.block _ (Qag hb)).trans hb, hp, ho.kept (row := none) ⟨k.os, k.tape, k.output, k.size, fun q hq _ => k.block q hq⟩ (by cases hv : v.ownBlock with | none => exact .inl rfl | some g => exact .inr (by simp)), hn⟩
theorem Kept.later {B b : Nat} {w w' : World} (hB : B ≤ w.heap.size) (k : Below w.heap.size w w') : Kept B b w w' := ⟨k.mono hB, fun q _ hq _ _ => (k.block q (Qag hq)).trans hq⟩
theorem WrA.from {B b : Nat} {c t : Txt} {lg : Bool} {w w1 w2 : World} {en : Ending} (h : WrA B b c lg t w1 en w2) (k : Kept B b w w1) : WrA B b c lg t w en w2 := ⟨h.1, k.trans h.2.1, h.2.2⟩
def fdT (x : Fld) : Txt := x.name ++ [58, 32] ++ x.type
theorem Qkc {B b : Nat} {c : Txt} {lg : Bool} {w : World} (h : Wr B b c lg w) (x : Fld) (h1 : x.name.length ≤ 140737488355328) (h2 : x.type.length ≤ 140737488355328) :
  Calls Tryz.prog 67 #[.pointer (some ⟨b, 0, none⟩), .agg #[str x.name, str x.type]] w fun e w' => WrA B b c lg (fdT x) w e w' := by
 have hlt := h.lt
 have hB : B ≤ w.heap.size := Nat.le_trans h.le (Nat.le_of_lt hlt)
 obtain ⟨w1, hw1⟩ : ∃ w1, w1 = w.alloc (.cells #[str x.name, str x.type] 138) := ⟨_, rfl⟩
 have b1 : Below w.heap.size w w1 := bnw hw1
 have n1 : w1.heap[w.heap.size]? = some (.cells #[str x.name, str x.type] 138 (0, 0)) := nnw hw1
 have s1 : w1.heap.size = w.heap.size + 1 := by rw [hw1]; simp
 obtain ⟨w2, hw2⟩ : ∃ w2, w2 = w1.alloc (.cells #[str x.name, .string ⟨#[58, 32]⟩, str x.type] 9) := ⟨_, rfl⟩
 have b2 : Below w1.heap.size w1 w2 := bnw hw2
 have n2 : w2.heap[w.heap.size + 1]? = some (.cells #[str x.name, .string ⟨#[58, 32]⟩, str x.type] 9 (0, 0)) := by rw [hw2, ← s1]; exact heap_alloc_new w1 _
 have bw : Below w.heap.size w w2 := b1.trans (b2.mono (by omega))
 have hT : TsB b (w.heap.size + 1) w2 [x.name, [58, 32], x.type] := ⟨_, n2, by omega, fun j t hj => by
  match j, hj with
  | 0, hj => cases hj; rfl
  | 1, hj => cases hj; rfl
  | 2, hj => cases hj; rfl
  | j + 3, hj => simp at hj⟩
 have hp := Qhw (cap := 3) (h.later bw) hT (fun t ht => by
  simp only [List.mem_cons, List.not_mem_nil, or_false] at ht
  rcases ht with rfl | rfl | rfl
  · exact h1
  · decide
  · exact h2) (by simp)
 have HE := hide (Kept.later (b := b) hB bw)
 obtain ⟨x0, x1, xf⟩ : w1.cell? ⟨w.heap.size, 0, none⟩ = some (str x.name) ∧ w1.cell? ⟨w.heap.size, 1, none⟩ = some (str x.type) ∧ ∀ o, w1.frozen? ⟨w.heap.size, o, none⟩ = false := ⟨(Qab n1 0).trans rfl, (Qab n1 1).trans rfl, fun o => by simp [World.frozen?, n1]⟩
 have HW1 := hide hw1
 have HW2 := hide (Ya hw2 s1)
 clear h h1 h2 hlt hB hw1 b1 n1 s1 hw2 b2 n2 bw hT
 go_enter Tryz.func67, Tryz.ntmps67
 go_wp2_with fail
 rw [← Qa HW1]
 go_wp2_with fail
 rw [← (Qa HW2).1]
 refine hp.mono ?_
 clear hp
 intro en w3 h3
 have H3 := hide h3
 obtain ⟨rfl, _⟩ := h3
 go_wp2_with fail
 go_end0
 have h3 := (Qa H3).from (Qa HE)
 have e : fdT x = [x.name, [58, 32], x.type].flatten := by simp [fdT]
 rw [e]
 exact h3
end
section
open Go.RowKit Go.Maps
def eqL {α : Type} (eq : α → α → Bool) (xs ys : List α) : Bool := decide (xs.length = ys.length) && (xs.zip ys).all (fun q => eq q.1 q.2)
theorem Qbd {α : Type} {eq : α → α → Bool} {xs ys : List α} (hl : xs.length = ys.length) (h : ∀ (j : Nat) (x y : α), xs[j]? = some x → ys[j]? = some y → eq x y = true) : eqL eq xs ys = true := by
 unfold eqL
 rw [decide_eq_true hl, Bool.true_and, List.all_eq_true]
 rintro ⟨x, y⟩ hm
 obtain ⟨j, hj, e⟩ := List.getElem_of_mem hm
 have hz : (xs.zip ys)[j]? = some (x, y) := by rw [List.getElem?_eq_getElem hj, e]
 rw [List.getElem?_zip_eq_some] at hz
 exact h j x y hz.1 hz.2
theorem Qai {α : Type} {eq : α → α → Bool} {xs ys : List α} {j : Nat} {x y : α} (hx : xs[j]? = some x) (hy : ys[j]? = some y) (h : eq x y = false) : eqL eq xs ys = false := by
 unfold eqL
 have hm : (x, y) ∈ xs.zip ys := List.mem_of_getElem? (i := j) (List.getElem?_zip_eq_some.2 ⟨hx, hy⟩)
 have : (xs.zip ys).all (fun q => eq q.1 q.2) = false := by
  rw [List.all_eq_false]
  exact ⟨_, hm, by simp [h]⟩
 rw [this, Bool.and_false]
theorem Qbo {α : Type} {eq : α → α → Bool} {xs ys : List α} (hl : ¬ xs.length = ys.length) : eqL eq xs ys = false := by
 unfold eqL
 rw [decide_eq_false hl, Bool.false_and]
theorem Qwe {k : Nat} : ∀ (css : List (List Value)) (j : Nat) (cs : List Value), (∀ c ∈ css, c.length = k) → css[j]? = some cs → ∀ q, q < k → css.flatten[j * k + q]? = cs[q]?
 | [], j, cs, _, h => by simp at h
 | c :: css, 0, cs, hl, h => fun q hq => by
  simp at h
  subst h
  rw [List.flatten_cons, Nat.zero_mul, Nat.zero_add, List.getElem?_append_left (by rw [hl c (by simp)]; exact hq)]
 | c :: css, j + 1, cs, hl, h => fun q hq => by
  have hc : c.length = k := hl c (by simp)
  rw [List.flatten_cons, List.getElem?_append_right (by rw [hc, Nat.succ_mul]; omega), hc, show (j + 1) * k + q - k = j * k + q by rw [Nat.succ_mul]; omega]
  exact Qwe css j cs (fun x hx => hl x (by simp [hx])) (by simpa using h) q hq
theorem LsAt.elem {α : Type} {p : PS α} {k : Nat} {S : Nat → Prop} {w : World} {v : Value} {xs : List α} (h : LsAt p k S w v xs) {j : Nat} {x : α} (hx : xs[j]? = some x) : ∃ b cap cs, v = .slice (some ⟨b, 0, none⟩) xs.length cap ∧ b < w.heap.size ∧ S b ∧ cs.length = k ∧ p S w cs x ∧ ∀ q c, cs[q]? = some c → w.cell? ⟨b, j * k + q, none⟩ = some c := by
 obtain ⟨a, cap, css, rfl, h1, h2, h3, h4⟩ := h
 have hj : j < xs.length := (List.getElem?_eq_some_iff.1 hx).1
 obtain ⟨b, rfl, hS, hb, hc⟩ := h4 (fun e => by rw [e] at hj; simp at hj)
 have hj2 : j < css.length := by rw [h3.1]; exact hj
 have hl : ∀ c ∈ css, c.length = k := fun c hc => by
  obtain ⟨i, hi, e⟩ := List.getElem_of_mem hc
  have hi2 : i < xs.length := by rw [← h3.1]; exact hi
  exact (h3.2 i _ c (List.getElem?_eq_getElem hi2) (by rw [List.getElem?_eq_getElem hi, e])).1
 obtain ⟨g1, g2⟩ := h3.2 j x css[j] hx (List.getElem?_eq_getElem hj2)
 refine ⟨b, cap, css[j], rfl, hb, hS, g1, g2, fun q c hq => hc _ _ ?_⟩
 rw [Qwe css j css[j] hl (List.getElem?_eq_getElem hj2) q (by rw [← g1]; exact (List.getElem?_eq_some_iff.1 hq).1)]
 exact hq
theorem LsAt.later {α : Type} {p : PS α} (hp : PSok p) {k : Nat} {S : Nat → Prop} {w w' : World} {v : Value} {xs : List α} (h : LsAt p k S w v xs) (b : Below w.heap.size w w') : LsAt p k S w' v xs := h.same hp b.size (fun k _ hk => b.block k hk)
end
end Go.Proofs.YtccehgfecaamoaaGreatDoor
