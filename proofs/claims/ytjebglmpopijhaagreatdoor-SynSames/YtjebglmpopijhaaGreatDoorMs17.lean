/- Walk of the law that tokens rise. syn: Parse. Lists in memory that are held against each other. slices.Equal at slices.Equal[[]vestry/api.Field,vestry/api.Field]. slices.Equal at slices.Equal[[]string,string]. -/
import Derived.Test.YtjebglmpopijhaaGreatDoorMs16
set_option maxRecDepth 100000
set_option maxHeartbeats 32000000
namespace Go.Proofs.YtjebglmpopijhaaGreatDoor
section
open Go.RowKit
def Ris (k n : Nat) : List Tok → Prop
 | [] => True
 | t :: l => k ≤ t.at_ ∧ t.at_ < n ∧ Ris (t.at_ + 1) n l
theorem Ris.mono {n : Nat} : ∀ {l : List Tok} {k j : Nat}, j ≤ k → Ris k n l → Ris j n l
 | [], _, _, _, _ => trivial
 | _ :: _, _, _, h, hr => ⟨Nat.le_trans h hr.1, hr.2⟩
theorem Qsm : ∀ (m : Nat) (r : Txt) (k : Nat), r.length ≤ m → match scan k r with | .ok l => Ris k (k + r.length) l | .bad why a => why ≠ 0 ∧ a ≤ k + r.length := by
 intro m
 induction m with
 | zero =>
  intro r k h
  have : r = [] := List.eq_nil_of_length_eq_zero (by omega)
  subst this
  rw [Qdd]; trivial
 | succ m ih =>
  intro r k h
  by_cases h0 : r = []
  · subst h0; rw [Qdd]; trivial
  cases hg : gapAt r with
  | never => rw [Qdo hg]; exact ⟨by decide, by omega⟩
  | gap n =>
   have hp := Qeo hg
   have := ih (r.drop n) (k + n) (by rw [List.length_drop]; omega)
   rw [Qf hg]
   rw [List.length_drop, show k + n + (r.length - n) = k + r.length by omega] at this
   cases hs : scan (k + n) (r.drop n) with
   | ok l => rw [hs] at this; exact Ris.mono (by omega) this
   | bad w a => rw [hs] at this; exact this
  | none =>
   cases ht : tokAt r with
   | bad w o =>
    rw [Qdc h0 hg ht]
    have := Qij ht
    exact ⟨this.1, by omega⟩
   | tok kd tx nm n =>
    have hp := Qdx ht
    have := ih (r.drop n) (k + n) (by rw [List.length_drop]; omega)
    rw [Qfa hg ht]
    rw [List.length_drop, show k + n + (r.length - n) = k + r.length by omega] at this
    cases hs : scan (k + n) (r.drop n) with
    | ok l => rw [hs] at this; exact ⟨Nat.le_refl _, by show k < _; omega, Ris.mono (by show k + 1 ≤ _; omega) this⟩
    | bad w a => rw [hs] at this; exact this
theorem Qoz (l : Txt) : match lexP l with | .ok t => Ris 0 l.length t | .bad why a => why ≠ 0 ∧ a ≤ l.length := by
 unfold lexP
 by_cases h : 65536 < l.length
 · rw [if_pos h]; exact ⟨by decide, Nat.zero_le _⟩
 rw [if_neg h]
 have := Qsm l.length l 0 (Nat.le_refl _)
 rwa [Nat.zero_add] at this
theorem Qni (s : ByteArray) (hs : s.size ≤ 281474976710656) (w : World) (hE : Env w) :
  Calls Tryz.prog 35 #[.string s] w fun e w' => TokAns (lexP s.data.toList) w w' e := by
 by_cases h : 65536 < s.size
 · exact Qld s h hs w
 · exact Qnj s (by omega) w hE

theorem tk_new (w : World) (k n a : Int) (t : ByteArray) : (tkStore (.pointer (some ⟨w.heap.size, 0, none⟩)) (.agg #[.int .i64 k, .string t, .int .i64 n, .int .i64 a])).run Tryz.prog (w.alloc tokZ) = .ok () (w.alloc (.cells #[.int .i64 k, .string t, .int .i64 n, .int .i64 a] 49)) :=
 run_storeAt_new w 49 _ _ Qlc rfl (by simp [Value.oneCell'])

def RsRel (n : Nat) (toks : List Tok) (w : World) (g cap : Nat) (a i : Value) (wr : World) : Prop :=
 ∃ (j lo : Nat), i = .int .i64 (j : Int) ∧ a = .int .i64 ((lo : Int) - 1) ∧ j ≤ toks.length ∧ lo ≤ n ∧ Hid (Below w.heap.size w wr ∧ RowAt wr g cap toks ∧ Ris lo n (toks.drop j))
end
section
open Go.RowKit Go.Maps
def TkOk (t : Tok) : Prop := 1 ≤ t.kind ∧ t.kind ≤ 4 ∧ 0 ≤ t.num ∧ t.num ≤ 9223372036854775807
theorem tok_ok {r : Txt} {kd : Int} {tx : Txt} {nm : Int} {n : Nat} (h : tokAt r = .tok kd tx nm n) : 1 ≤ kd ∧ kd ≤ 4 ∧ 0 ≤ nm ∧ nm ≤ 9223372036854775807 := by
 cases r with
 | nil => simp [tokAt] at h
 | cons c t =>
  rw [Qek] at h
  split at h
  ·
   unfold nmRes at h
   split at h
   · cases h
   · cases h; decide
  split at h
  ·
   unfold dgRes at h
   split at h
   · cases h
   split at h
   · cases h
   · cases h; exact ⟨by decide, by decide, by omega, by omega⟩
  split at h
  ·
   unfold txRes at h
   cases ht : txScan t with
   | ok v m => rw [ht] at h; cases h; decide
   | bad o => rw [ht] at h; cases h
   | never => rw [ht] at h; cases h
  unfold sgRes at h
  split at h
  · cases h
  · cases h; decide
theorem scan_ok : ∀ (m : Nat) (r : Txt) (k : Nat), r.length ≤ m → ∀ l, scan k r = .ok l → l.length ≤ r.length ∧ ∀ t ∈ l, TkOk t := by
 intro m
 induction m with
 | zero =>
  intro r k h l hl
  have : r = [] := List.eq_nil_of_length_eq_zero (by omega)
  subst this
  rw [Qdd] at hl
  cases hl
  exact ⟨Nat.le_refl _, fun t ht => by cases ht⟩
 | succ m ih =>
  intro r k h l hl
  by_cases h0 : r = []
  · subst h0; rw [Qdd] at hl; cases hl; exact ⟨Nat.le_refl _, fun t ht => by cases ht⟩
  cases hg : gapAt r with
  | never => rw [Qdo hg] at hl; cases hl
  | gap n =>
   have hp := Qeo hg
   rw [Qf hg] at hl
   obtain ⟨g1, g2⟩ := ih (r.drop n) (k + n) (by rw [List.length_drop]; omega) l hl
   rw [List.length_drop] at g1
   exact ⟨by omega, g2⟩
  | none =>
   cases ht : tokAt r with
   | bad w o => rw [Qdc h0 hg ht] at hl; cases hl
   | tok kd tx nm n =>
    have hp := Qdx ht
    rw [Qfa hg ht] at hl
    cases hs : scan (k + n) (r.drop n) with
    | bad w a => rw [hs] at hl; cases hl
    | ok l1 =>
     rw [hs] at hl
     cases hl
     obtain ⟨g1, g2⟩ := ih (r.drop n) (k + n) (by rw [List.length_drop]; omega) l1 hs
     rw [List.length_drop] at g1
     refine ⟨by simp only [List.length_cons]; omega, fun t htm => ?_⟩
     rcases List.mem_cons.1 htm with rfl | h2
     · exact tok_ok ht
     · exact g2 t h2
theorem Qth {s : Txt} {l : List Tok} (h : lexP s = .ok l) : s.length ≤ 65536 ∧ l.length ≤ s.length ∧ ∀ t ∈ l, TkOk t := by
 unfold lexP at h
 split at h
 · cases h
 obtain ⟨g1, g2⟩ := scan_ok s.length s 0 (Nat.le_refl _) l h
 exact ⟨by omega, g1, g2⟩
theorem Ris.at {n : Nat} : ∀ {l : List Tok} {k : Nat}, Ris k n l → ∀ t ∈ l, t.at_ < n
 | [], _, _, t, ht => by cases ht
 | x :: l, _, h, t, ht => by
  rcases List.mem_cons.1 ht with rfl | h2
  · exact h.2.1
  · exact h.2.2.at t h2
def parseP (s : Txt) : Rs Pg := match lexP s with
 | .bad why a => .bad why a []
 | .ok toks => progD s.length 32 true toks 0
def PsA (w : World) (r : Rs Pg) (en : Ending) (w' : World) : Prop := match r with
 | .bad why at_ _ => en = .returned (.tuple #[.agg #[.slice none 0 0, .slice none 0 0, .slice none 0 0, .slice none 0 0, .slice none 0 0], .agg #[.int .i64 why, .int .i64 at_]]) ∧ Below w.heap.size w w'
 | .ok p _ _ => ∃ v, en = .returned (.tuple #[v, .agg #[.int .i64 0, .int .i64 0]]) ∧ VPg (fun b => w.heap.size ≤ b) w' v p ∧ Below w.heap.size w w'
theorem Kp.bel {rb : Nat} {w w' : World} (h : Kp rb w w') {B : Nat} (h1 : B ≤ rb) (h2 : B ≤ w.heap.size) : Below B w w' := h.below h2 h1
theorem rd_new {w : World} {v : Value} {toks : List Tok} {B e : Nat} (ho : w.ownsRow B 49 4 v toks.length (tokCells toks)) (hk : ∀ t ∈ toks, TkOk t ∧ t.at_ ≤ 65536) (hl : toks.length ≤ 65536) (he : e ≤ 65536) : Rd w.heap.size e (w.alloc (.cells #[v, .int .i64 (e : Int), .int .i64 0, .int .i64 0] 94)) toks 0 0 := by
 refine ⟨⟨v, heap_alloc_new w _, ?_⟩, fun t ht => ?_, hl, he⟩
 ·
  rcases Qqj ho with ⟨rfl, rfl⟩ | ⟨g, cap, rfl, hr⟩
  · exact ⟨none, 0, rfl, Nat.le_refl _, Nat.zero_le _, fun j t hj => by simp at hj⟩
  refine ⟨some ⟨g, 0, none⟩, cap, rfl, hr.le, hr.cm, fun j t hj => ⟨g, 0, rfl, hr.lt, ?_⟩⟩
  obtain ⟨c0, c1, c2, c3⟩ := hr.cells j t hj
  rw [Nat.zero_add]
  exact TokAt.same (w := w) ⟨c0, c1, c2, c3⟩ (Below.heap_alloc _ _ _ hr.lt)
 obtain ⟨⟨h1, h2, h3, h4⟩, h5⟩ := hk t ht
 exact ⟨by omega, h2, h3, h4, h5⟩
theorem Qsb (s : ByteArray) (hs : s.size ≤ 281474976710656) (w : World) (hE : Env w) (hrd0 : ∀ rb w toks, lexP s.data.toList = .ok toks → Rd rb s.size w toks 0 0 → Calls Tryz.prog 36 #[.pointer (some ⟨rb, 0, none⟩)] w fun en w' => RdAns rb w (progD s.size 32 true toks 0) en w') :
  Calls Tryz.prog 10 #[.string s] w fun en w' => PsA w (parseP s.data.toList) en w' := by
 obtain ⟨w2, hw2⟩ : ∃ w2, w2 = (w.alloc pgZ).alloc ftZ := ⟨_, rfl⟩
 have b2 : Below w.heap.size w w2 := by rw [hw2]; exact ((Below.refl _ w).alloc (Nat.le_refl _) _).alloc (by simp) _
 have s2 : w2.heap.size = w.heap.size + 2 := by rw [hw2]; simp
 have p2 : w2.heap[w.heap.size]? = some pgZ := by rw [hw2, Below.heap_alloc _ _ _ (by simp)]; exact heap_alloc_new w _
 have f2 : w2.heap[w.heap.size + 1]? = some ftZ := by
  rw [hw2]
  have := heap_alloc_new (w.alloc pgZ) ftZ
  simpa using this
 have htk := Qni s hs w2 (hE.later b2)
 have HW2 : Hid (w2 = (w.alloc (.cells #[.slice none 0 0, .slice none 0 0, .slice none 0 0, .slice none 0 0, .slice none 0 0] 28)).alloc (.cells #[.int .i64 0, .int .i64 0] 31)) := hw2
 have K2 := hide (Ya b2 (Ya p2 (Ya f2 s2)))
 obtain ⟨PO, hPO⟩ : ∃ PO : Ending → World → Prop, PO = fun en w' => PsA w (parseP s.data.toList) en w' := ⟨_, rfl⟩
 rw [← hPO]
 have HPO := hide hPO
 have hri := Qoz s.data.toList
 have hsz : s.data.toList.length = s.size := (Qbb s).symm
 clear b2 s2 p2 f2 hw2 hPO hE
 cases hq : lexP s.data.toList with
 | bad why at1 =>
  rw [hq] at htk hri
  clear hrd0
  have HE : Hid (PO = fun en w' => PsA w (.bad why (at1 : Int) []) en w') := by
   have h0 := Qa HPO
   unfold parseP at h0
   rw [hq] at h0
   exact h0
  have hz : (why != 0) = true := bne_iff_ne.2 hri.1
  clear hq HPO hri hsz
  go_enter Tryz.func10, Tryz.ntmps10
  go_wp2_with fail
  rw [← Qa HW2]
  refine htk.mono ?_
  clear htk HW2
  rintro en w3 ⟨v, rfl, hown, b3⟩
  obtain ⟨b2, p2, f2, s2⟩ := Qa K2
  have hs3 := b3.size
  obtain ⟨w4, hw4⟩ : ∃ w4, w4 = w3.alloc (.cells #[.int .i64 why, .int .i64 (at1 : Int)] 31) := ⟨_, rfl⟩
  have n4 : w4.heap[w3.heap.size]? = some (.cells #[.int .i64 why, .int .i64 (at1 : Int)] 31 (0, 0)) := by rw [hw4]; exact heap_alloc_new w3 _
  have b4 : Below w2.heap.size w2 w4 := by rw [hw4]; exact b3.alloc b3.size _
  have p4 := (b4.block _ (Qag p2)).trans p2
  have f4 := (b4.block _ (Qag f2)).trans f2
  have b04 : Below w.heap.size w w4 := b2.trans (b4.mono (by omega))
  have hs4 := b4.size
  obtain ⟨x0, x1, x2, x3, x4, xf⟩ := cl5 p4
  obtain ⟨c0, c1, cf⟩ := cl2 n4
  obtain ⟨w5, hw5⟩ : ∃ w5, w5 = (((((w4.setCell ⟨w.heap.size, 0, none⟩ (.slice none 0 0)).setCell ⟨w.heap.size, 1, none⟩ (.slice none 0 0)).setCell ⟨w.heap.size, 2, none⟩ (.slice none 0 0)).setCell ⟨w.heap.size, 3, none⟩ (.slice none 0 0)).setCell ⟨w.heap.size, 4, none⟩ (.slice none 0 0)).drew := ⟨_, rfl⟩
  have ho5 : ∀ k, k ≠ w.heap.size → w5.heap[k]? = w4.heap[k]? := fun k hk => by
   rw [hw5, show ∀ v : World, v.drew.heap = v.heap from fun _ => rfl, hpS hk, hpS hk, hpS hk, hpS hk, hpS hk]
  have p5 : w5.heap[w.heap.size]? = some pgZ := by
   rw [hw5]
   exact (Qae (Qae (Qae (Qae (Qae p4 0 _) 1 _) 2 _) 3 _) 4 _).trans rfl
  have f5 := (ho5 (w.heap.size + 1) (by omega)).trans f4
  have n5 := (ho5 w3.heap.size (by omega)).trans n4
  obtain ⟨y0, y1, yf⟩ := cl2 f5
  have b05 : Below w.heap.size w w5 := by rw [hw5]; exact (((((b04.setCell (p := ⟨w.heap.size, 0, none⟩) (Nat.le_refl _) _).setCell (p := ⟨w.heap.size, 1, none⟩) (Nat.le_refl _) _).setCell (p := ⟨w.heap.size, 2, none⟩) (Nat.le_refl _) _).setCell (p := ⟨w.heap.size, 3, none⟩) (Nat.le_refl _) _).setCell (p := ⟨w.heap.size, 4, none⟩) (Nat.le_refl _) _).drew
  obtain ⟨w7, hw7⟩ : ∃ w7, w7 = (w5.setCell ⟨w.heap.size + 1, 0, none⟩ (.int .i64 why)).setCell ⟨w.heap.size + 1, 1, none⟩ (.int .i64 (at1 : Int)) := ⟨_, rfl⟩
  have ho7 : ∀ k, k ≠ w.heap.size + 1 → w7.heap[k]? = w5.heap[k]? := fun k hk => by rw [hw7, hpS hk, hpS hk]
  have f7 : w7.heap[w.heap.size + 1]? = some (.cells #[.int .i64 why, .int .i64 (at1 : Int)] 31 (0, 0)) := by rw [hw7]; exact (Qae (Qae f5 0 _) 1 _).trans rfl
  have p7 := (ho7 w.heap.size (by omega)).trans p5
  have n7 := (ho7 w3.heap.size (by omega)).trans n5
  have b07 : Below w.heap.size w w7 := by rw [hw7]; exact (b05.setCell (p := ⟨w.heap.size + 1, 0, none⟩) (by show w.heap.size ≤ w.heap.size + 1; omega) _).setCell (p := ⟨w.heap.size + 1, 1, none⟩) (by show w.heap.size ≤ w.heap.size + 1; omega) _
  have HN := hide (Ya n4 (Ya n5 n7))
  have HU := hide (Ya p7 (Ya f7 b07))
  have HW4 := hide hw4
  have HW5 := hide hw5
  have HW7 := hide hw7
  clear hown b3 b2 p2 f2 s2 hs3 hw4 n4 b4 p4 f4 b04 hs4 hw5 ho5 p5 f5 n5 b05 hw7 ho7 f7 p7 n7 b07 K2
  simp only [Out.why, Out.fa]
  go_wp2_with fail
  rw [← Qa HW4]
  clear HW4
  go_wp2_with fail
  refine Qat (m := 3) (ml := [(0, 1), (1, 1), (2, 0), (3, 0)]) (fun _ w' => w'.heap[w3.heap.size]? = some (.cells #[.int .i64 why, .int .i64 (at1 : Int)] 31 (0, 0))) mixedO (by kernel_rfl) rfl (by rfl) (by kernel_rfl) (fun PP hPP => ?_)
  refine Qac rfl (by kernel_rfl) (fun _ _ _ => by go_simp <;> rfl) ?_
  refine Qac rfl (by kernel_rfl) (fun f w' hw => by obtain ⟨u0, u1, uf⟩ := cl2 hw; go_simp <;> rfl) ?_
  refine Qab rfl (Qa HN).1 (fun K hK => ?_)
  go_simp
  rw [← Qa HW5]
  refine hK _ _ ?_
  clear hK K HW5 x0 x1 x2 x3 x4 xf
  refine Qab rfl (Qa HN).2.1 (fun K hK => ?_)
  go_simp
  rw [← Qa HW7]
  refine hK _ _ ?_
  clear hK K HW7 y0 y1 yf
  refine Qar (Qa HN).2.2 (hPP _ _ ?_)
  clear hPP PP
  obtain ⟨p7, f7, b07⟩ := Qa HU
  obtain ⟨u0, u1, u2, u3, u4, uf⟩ := cl5 p7
  obtain ⟨t0, t1, tf⟩ := cl2 f7
  go_wp2_with fail
  refine bodyPost_ret (v := .tuple #[.agg #[.slice none 0 0, .slice none 0 0, .slice none 0 0, .slice none 0 0, .slice none 0 0], .agg #[.int .i64 why, .int .i64 (at1 : Int)]]) (by simp [results, Tryz.results10, go_sem, u0, u1, u2, u3, u4, t0, t1]) rfl ?_
  rw [Qa HE]
  exact ⟨rfl, b07⟩
 | ok toks =>
  rw [hq] at htk hri
  obtain ⟨g1, g2, g3⟩ := Qth hq
  have HRD := hide (fun rb w h => hrd0 rb w toks hq h)
  clear hrd0
  have hat : ∀ t ∈ toks, TkOk t ∧ t.at_ ≤ 65536 := fun t ht => ⟨g3 t ht, by have := Ris.at hri t ht; omega⟩
  have HE : Hid (PO = fun en w' => PsA w (progD s.size 32 true toks 0) en w') := by
   have h0 := Qa HPO
   unfold parseP at h0
   rw [hq] at h0
   rw [← hsz]
   exact h0
  rw [hsz] at g1 g2
  have HT := hide (Ya hat (Ya g1 g2))
  clear hq HPO hri hsz hat g2 g3
  go_enter Tryz.func10, Tryz.ntmps10
  go_wp2_with fail
  rw [← Qa HW2]
  refine htk.mono ?_
  clear htk HW2
  rintro en w3 ⟨v, rfl, hown, b3⟩
  obtain ⟨b2, p2, f2, s2⟩ := Qa K2
  have hs3 := b3.size
  obtain ⟨hat, _, g2⟩ := Qa HT
  obtain ⟨w4, hw4⟩ : ∃ w4, w4 = w3.alloc ftZ := ⟨_, rfl⟩
  have n4 : w4.heap[w3.heap.size]? = some ftZ := by rw [hw4]; exact heap_alloc_new w3 _
  have b4 : Below w2.heap.size w2 w4 := by rw [hw4]; exact b3.alloc b3.size _
  have s4 : w4.heap.size = w3.heap.size + 1 := by rw [hw4]; simp
  have ho4 : w4.ownsRow w2.heap.size 49 4 v toks.length (tokCells toks) := by rw [hw4]; exact World.ownsRow.alloc hown _
  obtain ⟨w5, hw5⟩ : ∃ w5, w5 = w4.alloc (.cells #[v, .int .i64 (s.size : Int), .int .i64 0, .int .i64 0] 94) := ⟨_, rfl⟩
  have hR : Rd w4.heap.size s.size w5 toks 0 0 := by rw [hw5]; exact rd_new ho4 hat (by omega) g1
  have b5 : Below w2.heap.size w2 w5 := by rw [hw5]; exact b4.alloc b4.size _
  have s5 : w5.heap.size = w3.heap.size + 2 := by rw [hw5]; simp [s4]
  have p5 := (b5.block _ (Qag p2)).trans p2
  have f5 := (b5.block _ (Qag f2)).trans f2
  have b05 : Below w.heap.size w w5 := b2.trans (b5.mono (by omega))
  have hrd := Qa HRD _ _ hR
  have c0 : w4.cell? ⟨w3.heap.size, 0, none⟩ = some (.int .i64 0) := by rw [Qad n4]; rfl
  obtain ⟨vs, vn, vc, ev⟩ : ∃ vs vn vc, v = .slice vs vn vc := by
   rcases Qqj hown with ⟨e, _⟩ | ⟨g, cap, e, _⟩
   · exact ⟨_, _, _, e⟩
   · exact ⟨_, _, _, e⟩
  have hsl : s.size ≤ 65536 := g1
  have K5 := hide (Ya b05 (Ya p5 (Ya f5 (Ya (show w.heap.size + 2 ≤ w4.heap.size by omega) (show w4.heap.size < w5.heap.size by omega)))))
  have HW4 : Hid (w4 = w3.alloc (.cells #[.int .i64 0, .int .i64 0] 31)) := hw4
  rw [ev] at hw5
  have HW5 := hide hw5
  have HS4 := hide s4
  subst ev
  clear hown b3 b2 p2 f2 s2 hs3 hat g2 hw4 n4 b4 s4 ho4 hw5 hR b5 s5 p5 f5 b05 K2 g1
  simp only [Out.why, Out.fa]
  go_wp2_with fail
  rw [← Qa HW4]
  go_wp2_with fail
  rw [← Qa HW5, show w3.heap.size + 1 = w4.heap.size from (Qa HS4).symm]
  clear HW4 HW5 HS4 c0
  cases hq : progD s.size 32 true toks 0 with
  | bad why at1 l4 =>
   rw [hq] at hrd
   have HE2 : Hid (PO = fun en w' => PsA w (.bad why at1 l4) en w') := by
    have h0 := Qa HE
    rw [hq] at h0
    exact h0
   clear hq HE
   refine hrd.mono ?_
   clear hrd
   rintro en w6 ⟨rfl, k6⟩
   obtain ⟨b05, p5, f5, g4, g5⟩ := Qa K5
   have p6 := k6.keep p5 (by omega)
   have f6 := k6.keep f5 (by omega)
   have b06 : Below w.heap.size w w6 := b05.trans (k6.bel (by omega) b05.size)
   obtain ⟨x0, x1, x2, x3, x4, xf⟩ := cl5 p6
   obtain ⟨w7, hw7⟩ : ∃ w7, w7 = (((((w6.setCell ⟨w.heap.size, 0, none⟩ (.slice none 0 0)).setCell ⟨w.heap.size, 1, none⟩ (.slice none 0 0)).setCell ⟨w.heap.size, 2, none⟩ (.slice none 0 0)).setCell ⟨w.heap.size, 3, none⟩ (.slice none 0 0)).setCell ⟨w.heap.size, 4, none⟩ (.slice none 0 0)) := ⟨_, rfl⟩
   have f7 : w7.heap[w.heap.size + 1]? = some ftZ := by
    have hk : w.heap.size + 1 ≠ w.heap.size := by omega
    rw [hw7, hpS hk, hpS hk, hpS hk, hpS hk, hpS hk]; exact f6
   have p7 : w7.heap[w.heap.size]? = some pgZ := by rw [hw7]; exact (Qae (Qae (Qae (Qae (Qae p6 0 _) 1 _) 2 _) 3 _) 4 _).trans rfl
   have b07 : Below w.heap.size w w7 := by rw [hw7]; exact ((((b06.setCell (p := ⟨w.heap.size, 0, none⟩) (Nat.le_refl _) _).setCell (p := ⟨w.heap.size, 1, none⟩) (Nat.le_refl _) _).setCell (p := ⟨w.heap.size, 2, none⟩) (Nat.le_refl _) _).setCell (p := ⟨w.heap.size, 3, none⟩) (Nat.le_refl _) _).setCell (p := ⟨w.heap.size, 4, none⟩) (Nat.le_refl _) _
   obtain ⟨y0, y1, yf⟩ := cl2 f7
   obtain ⟨w9, hw9⟩ : ∃ w9, w9 = (w7.setCell ⟨w.heap.size + 1, 0, none⟩ (.int .i64 why)).setCell ⟨w.heap.size + 1, 1, none⟩ (.int .i64 at1) := ⟨_, rfl⟩
   have f9 : w9.heap[w.heap.size + 1]? = some (.cells #[.int .i64 why, .int .i64 at1] 31 (0, 0)) := by rw [hw9]; exact (Qae (Qae f7 0 _) 1 _).trans rfl
   have p9 : w9.heap[w.heap.size]? = some pgZ := by
    have hk : w.heap.size ≠ w.heap.size + 1 := by omega
    rw [hw9, hpS hk, hpS hk]; exact p7
   have b09 : Below w.heap.size w w9 := by rw [hw9]; exact (b07.setCell (p := ⟨w.heap.size + 1, 0, none⟩) (by show w.heap.size ≤ w.heap.size + 1; omega) _).setCell (p := ⟨w.heap.size + 1, 1, none⟩) (by show w.heap.size ≤ w.heap.size + 1; omega) _
   have HU := hide (Ya p9 (Ya f9 b09))
   have HW9 := hide hw9
   clear b05 p5 f5 g4 g5 p6 f6 b06 f7 p7 b07 hw9 f9 p9 b09 K5 k6
   subst hw7
   go_wp2_with fail
   rw [← Qa HW9]
   obtain ⟨p9, f9, b09⟩ := Qa HU
   obtain ⟨u0, u1, u2, u3, u4, uf⟩ := cl5 p9
   obtain ⟨t0, t1, tf⟩ := cl2 f9
   clear x0 x1 x2 x3 x4 xf y0 y1 yf HW9 HU
   refine bodyPost_ret (v := .tuple #[.agg #[.slice none 0 0, .slice none 0 0, .slice none 0 0, .slice none 0 0, .slice none 0 0], .agg #[.int .i64 why, .int .i64 at1]]) (by simp [results, Tryz.results10, go_sem, u0, u1, u2, u3, u4, t0, t1]) rfl ?_
   rw [Qa HE2]
   exact ⟨rfl, b09⟩
  | ok p l4 i4 =>
   rw [hq] at hrd
   have HE2 : Hid (PO = fun en w' => PsA w (.ok p l4 i4) en w') := by
    have h0 := Qa HE
    rw [hq] at h0
    exact h0
   clear hq HE
   refine hrd.mono ?_
   clear hrd
   rintro en w6 ⟨_, rfl, ⟨a0, m0, q0, a1, m1, q1, a2, m2, q2, a3, m3, q3, a4, m4, q4, rfl, hP⟩, k6⟩
   obtain ⟨b05, p5, f5, g4, g5⟩ := Qa K5
   have p6 := k6.keep p5 (by omega)
   have f6 := k6.keep f5 (by omega)
   have b06 : Below w.heap.size w w6 := b05.trans (k6.bel (by omega) b05.size)
   obtain ⟨x0, x1, x2, x3, x4, xf⟩ := cl5 p6
   obtain ⟨w7, hw7⟩ : ∃ w7, w7 = (((((w6.setCell ⟨w.heap.size, 0, none⟩ (.slice a0 m0 q0)).setCell ⟨w.heap.size, 1, none⟩ (.slice a1 m1 q1)).setCell ⟨w.heap.size, 2, none⟩ (.slice a2 m2 q2)).setCell ⟨w.heap.size, 3, none⟩ (.slice a3 m3 q3)).setCell ⟨w.heap.size, 4, none⟩ (.slice a4 m4 q4)) := ⟨_, rfl⟩
   have ho7 : ∀ k, k ≠ w.heap.size → w7.heap[k]? = w6.heap[k]? := fun k hk => by rw [hw7, hpS hk, hpS hk, hpS hk, hpS hk, hpS hk]
   have f7 : w7.heap[w.heap.size + 1]? = some ftZ := (ho7 _ (by omega)).trans f6
   have p7 : w7.heap[w.heap.size]? = some (.cells #[.slice a0 m0 q0, .slice a1 m1 q1, .slice a2 m2 q2, .slice a3 m3 q3, .slice a4 m4 q4] 28 (0, 0)) := by rw [hw7]; exact (Qae (Qae (Qae (Qae (Qae p6 0 _) 1 _) 2 _) 3 _) 4 _).trans rfl
   have b07 : Below w.heap.size w w7 := by rw [hw7]; exact ((((b06.setCell (p := ⟨w.heap.size, 0, none⟩) (Nat.le_refl _) _).setCell (p := ⟨w.heap.size, 1, none⟩) (Nat.le_refl _) _).setCell (p := ⟨w.heap.size, 2, none⟩) (Nat.le_refl _) _).setCell (p := ⟨w.heap.size, 3, none⟩) (Nat.le_refl _) _).setCell (p := ⟨w.heap.size, 4, none⟩) (Nat.le_refl _) _
   obtain ⟨y0, y1, yf⟩ := cl2 f7
   obtain ⟨w9, hw9⟩ : ∃ w9, w9 = (w7.setCell ⟨w.heap.size + 1, 0, none⟩ (.int .i64 0)).setCell ⟨w.heap.size + 1, 1, none⟩ (.int .i64 0) := ⟨_, rfl⟩
   have ho9 : ∀ k, k ≠ w.heap.size + 1 → w9.heap[k]? = w7.heap[k]? := fun k hk => by rw [hw9, hpS hk, hpS hk]
   have f9 : w9.heap[w.heap.size + 1]? = some (.cells #[.int .i64 0, .int .i64 0] 31 (0, 0)) := by rw [hw9]; exact (Qae (Qae f7 0 _) 1 _).trans rfl
   have p9 := (ho9 w.heap.size (by omega)).trans p7
   have b09 : Below w.heap.size w w9 := by rw [hw9]; exact (b07.setCell (p := ⟨w.heap.size + 1, 0, none⟩) (by show w.heap.size ≤ w.heap.size + 1; omega) _).setCell (p := ⟨w.heap.size + 1, 1, none⟩) (by show w.heap.size ≤ w.heap.size + 1; omega) _
   have hsz : w6.heap.size ≤ w9.heap.size := by rw [hw9, hw7]; simp [World.setCell]
   have hP9 : VPg (fun b => w.heap.size ≤ b) w9 (.agg #[.slice a0 m0 q0, .slice a1 m1 q1, .slice a2 m2 q2, .slice a3 m3 q3, .slice a4 m4 q4]) p := ⟨_, _, _, _, _, _, _, _, _, _, _, _, _, _, _, rfl, Qbe.mono _ _ _ _ _ (Qbe.same _ _ w9 _ _ hP hsz (fun b hb _ => by have hb' : w5.heap.size ≤ b := hb; exact (ho9 b (by omega)).trans (ho7 b (by omega)))) (fun b _ hb => by have hb' : w5.heap.size ≤ b := hb; omega)⟩
   have HU := hide (Ya p9 (Ya f9 (Ya hP9 b09)))
   have HW9 := hide hw9
   clear b05 p5 f5 g4 g5 p6 f6 b06 ho7 f7 p7 b07 hw9 ho9 f9 p9 b09 hsz hP9 hP K5 k6
   subst hw7
   go_wp2_with fail
   rw [← Qa HW9]
   obtain ⟨p9, f9, hP9, b09⟩ := Qa HU
   obtain ⟨u0, u1, u2, u3, u4, uf⟩ := cl5 p9
   obtain ⟨t0, t1, tf⟩ := cl2 f9
   clear x0 x1 x2 x3 x4 xf y0 y1 yf HW9 HU
   refine bodyPost_ret (v := .tuple #[.agg #[.slice a0 m0 q0, .slice a1 m1 q1, .slice a2 m2 q2, .slice a3 m3 q3, .slice a4 m4 q4], .agg #[.int .i64 0, .int .i64 0]]) (by simp [results, Tryz.results10, go_sem, u0, u1, u2, u3, u4, t0, t1]) rfl ?_
   rw [Qa HE2]
   exact ⟨_, rfl, hP9, b09⟩
end
section
open Go.RowKit Go.Maps
def eqL {α : Type} (eq : α → α → Bool) (xs ys : List α) : Bool := decide (xs.length = ys.length) && (xs.zip ys).all (fun q => eq q.1 q.2)
theorem Qbd {α : Type} {eq : α → α → Bool} {xs ys : List α} (hl : xs.length = ys.length) (h : ∀ (j : Nat) (x y : α), xs[j]? = some x → ys[j]? = some y → eq x y = true) : eqL eq xs ys = true := by
 unfold eqL
 rw [decide_eq_true hl, Bool.true_and, List.all_eq_true]
 rintro ⟨x, y⟩ hm
 obtain ⟨j, hj, e⟩ := List.getElem_of_mem hm
 have hz : (xs.zip ys)[j]? = some (x, y) := by rw [List.getElem?_eq_getElem hj, e]
 rw [List.getElem?_zip_eq_some] at hz
 exact h j x y hz.1 hz.2
theorem Qal {α : Type} {eq : α → α → Bool} {xs ys : List α} {j : Nat} {x y : α} (hx : xs[j]? = some x) (hy : ys[j]? = some y) (h : eq x y = false) : eqL eq xs ys = false := by
 unfold eqL
 have hm : (x, y) ∈ xs.zip ys := List.mem_of_getElem? (i := j) (List.getElem?_zip_eq_some.2 ⟨hx, hy⟩)
 have : (xs.zip ys).all (fun q => eq q.1 q.2) = false := by
  rw [List.all_eq_false]
  exact ⟨_, hm, by simp [h]⟩
 rw [this, Bool.and_false]
theorem Qbw {α : Type} {eq : α → α → Bool} {xs ys : List α} (hl : ¬ xs.length = ys.length) : eqL eq xs ys = false := by
 unfold eqL
 rw [decide_eq_false hl, Bool.false_and]
theorem Qol {k : Nat} : ∀ (css : List (List Value)) (j : Nat) (cs : List Value), (∀ c ∈ css, c.length = k) → css[j]? = some cs → ∀ q, q < k → css.flatten[j * k + q]? = cs[q]?
 | [], j, cs, _, h => by simp at h
 | c :: css, 0, cs, hl, h => fun q hq => by
  simp at h
  subst h
  rw [List.flatten_cons, Nat.zero_mul, Nat.zero_add, List.getElem?_append_left (by rw [hl c (by simp)]; exact hq)]
 | c :: css, j + 1, cs, hl, h => fun q hq => by
  have hc : c.length = k := hl c (by simp)
  rw [List.flatten_cons, List.getElem?_append_right (by rw [hc, Nat.succ_mul]; omega), hc, show (j + 1) * k + q - k = j * k + q by rw [Nat.succ_mul]; omega]
  exact Qol css j cs (fun x hx => hl x (by simp [hx])) (by simpa using h) q hq
theorem LsAt.elem {α : Type} {p : PS α} {k : Nat} {S : Nat → Prop} {w : World} {v : Value} {xs : List α} (h : LsAt p k S w v xs) {j : Nat} {x : α} (hx : xs[j]? = some x) : ∃ b cap cs, v = .slice (some ⟨b, 0, none⟩) xs.length cap ∧ b < w.heap.size ∧ S b ∧ cs.length = k ∧ p S w cs x ∧ ∀ q c, cs[q]? = some c → w.cell? ⟨b, j * k + q, none⟩ = some c := by
 obtain ⟨a, cap, css, rfl, h1, h2, h3, h4⟩ := h
 have hj : j < xs.length := (List.getElem?_eq_some_iff.1 hx).1
 obtain ⟨b, rfl, hS, hb, hc⟩ := h4 (fun e => by rw [e] at hj; simp at hj)
 have hj2 : j < css.length := by rw [h3.1]; exact hj
 have hl : ∀ c ∈ css, c.length = k := fun c hc => by
  obtain ⟨i, hi, e⟩ := List.getElem_of_mem hc
  have hi2 : i < xs.length := by rw [← h3.1]; exact hi
  exact (h3.2 i _ c (List.getElem?_eq_getElem hi2) (by rw [List.getElem?_eq_getElem hi, e])).1
 obtain ⟨g1, g2⟩ := h3.2 j x css[j] hx (List.getElem?_eq_getElem hj2)
 refine ⟨b, cap, css[j], rfl, hb, hS, g1, g2, fun q c hq => hc _ _ ?_⟩
 rw [Qol css j css[j] hl (List.getElem?_eq_getElem hj2) q (by rw [← g1]; exact (List.getElem?_eq_some_iff.1 hq).1)]
 exact hq
theorem LsAt.later {α : Type} {p : PS α} (hp : PSok p) {k : Nat} {S : Nat → Prop} {w w' : World} {v : Value} {xs : List α} (h : LsAt p k S w v xs) (b : Below w.heap.size w w') : LsAt p k S w' v xs := h.same hp b.size (fun k _ hk => b.block k hk)
end
section
open Go.RowKit Go.Maps
def eqFd (x y : Fld) : Bool := decide (x.name = y.name) && decide (x.type = y.type)
theorem Qoe {S : Nat → Prop} {w : World} {va vb : Value} {xs ys : List Fld} (ha : LsAt PF 2 S w va xs) (hb : LsAt PF 2 S w vb ys) :
  Calls Tryz.prog 60 #[va, vb] w fun en w' => en = .returned (.bool (eqL eqFd xs ys)) ∧ Below w.heap.size w w' := by
 obtain ⟨a1, p1, e1⟩ := ha.sl
 obtain ⟨a2, p2, e2⟩ := hb.sl
 have hm1 : xs.length ≤ p1 ∧ p1 ≤ maxLen := by
  obtain ⟨_, _, _, e, h1, h2, _⟩ := ha
  rw [e] at e1
  cases e1
  exact ⟨h1, h2⟩
 have hm2 : ys.length ≤ p2 ∧ p2 ≤ maxLen := by
  obtain ⟨_, _, _, e, h1, h2, _⟩ := hb
  rw [e] at e2
  cases e2
  exact ⟨h1, h2⟩
 unfold maxLen at hm1 hm2
 obtain ⟨n1, hn1⟩ : ∃ n, xs.length = n := ⟨_, rfl⟩
 obtain ⟨n2, hn2⟩ : ∃ n, ys.length = n := ⟨_, rfl⟩
 rw [hn1] at e1 hm1
 rw [hn2] at e2 hm2
 obtain ⟨hc1, hc2⟩ := hm1
 obtain ⟨hc3, hc4⟩ := hm2
 have HA := hide (Ya ha (Ya hb (Ya hn1 hn2)))
 have HV := hide (Ya e1 e2)
 rw [e1, e2]
 clear ha hb e1 e2 hn1 hn2
 by_cases hlen : n1 = n2
 ·
  subst hlen
  go_enter Tryz.func60, Tryz.ntmps60
  go_wp2_with fail
  go_loopw [13] (fun i wr => ∃ j : Nat, i = .int .i64 (j : Int) ∧ j ≤ n1 ∧ Hid (Below w.heap.size w wr ∧ ∀ q x y, q < j → xs[q]? = some x → ys[q]? = some y → eqFd x y = true)) (fun i _ => n1 - (intOf i).toNat)
  case atStart => exact ⟨0, rfl, Nat.zero_le _, hide ⟨Below.refl _ _, fun q _ _ hq => absurd hq (Nat.not_lt_zero _)⟩⟩
  obtain ⟨j, rfl, hj, HB⟩ := hrel
  by_cases hlt : j < n1
  ·
   obtain ⟨ha, hb, hn1, hn2⟩ := Qa HA
   obtain ⟨bw, hall⟩ := Qa HB
   obtain ⟨x, hx⟩ : ∃ x, xs[j]? = some x := ⟨xs[j]'(by omega), List.getElem?_eq_getElem _⟩
   obtain ⟨y, hy⟩ : ∃ y, ys[j]? = some y := ⟨ys[j]'(by omega), List.getElem?_eq_getElem _⟩
   obtain ⟨b1, q1, cs1, ev1, hb1, _, hl1, hp1, hc1'⟩ := (ha.later Qbt bw).elem hx
   obtain ⟨b2, q2, cs2, ev2, hb2, _, hl2, hp2, hc2'⟩ := (hb.later Qbt bw).elem hy
   have hp1 : cs1 = [str x.name, str x.type] := hp1
   have hp2 : cs2 = [str y.name, str y.type] := hp2
   subst hp1
   subst hp2
   rw [(Qa HV).1, hn1] at ev1
   rw [(Qa HV).2, hn2] at ev2
   simp only [Value.slice.injEq] at ev1 ev2
   obtain ⟨rfl, -, -⟩ := ev1
   obtain ⟨rfl, -, -⟩ := ev2
   have x_0 : wr.cell? ⟨b1, j * 2, none⟩ = some (str x.name) := hc1' 0 _ rfl
   have y_0 : wr.cell? ⟨b2, j * 2, none⟩ = some (str y.name) := hc2' 0 _ rfl
   have x_1 : wr.cell? ⟨b1, j * 2 + 1, none⟩ = some (str x.type) := hc1' 1 _ rfl
   have y_1 : wr.cell? ⟨b2, j * 2 + 1, none⟩ = some (str y.type) := hc2' 1 _ rfl
   clear ha hb hc1' hc2' hl1 hl2 hn1 hn2 HA HV HB
   by_cases e0 : x.name = y.name
   ·
    have g0 : (x.name == y.name) = true := by simpa using e0
    by_cases e1 : x.type = y.type
    ·
     have g1 : (x.type == y.type) = true := by simpa using e1
     have HF := hide (Ya hx (Ya hy (Ya hall (Ya bw (show eqFd x y = true by unfold eqFd; simp [e0, e1])))))
     clear hx hy hall bw e0 e1
     go_wp2_with fail
     go_region
     all_goals
      go_wp2_with fail
      go_roundw
      case rel =>
       obtain ⟨hx, hy, hall, bw, hr⟩ := Qa HF
       refine ⟨j + 1, by go_num, by omega, hide ⟨bw.drew, fun q x' y' hq hx' hy' => ?_⟩⟩
       by_cases e : q = j
       ·
        subst e
        rw [hx] at hx'
        rw [hy] at hy'
        cases hx'
        cases hy'
        exact hr
       · exact hall q x' y' (by omega) hx' hy'
      case measure => simp [intOf]; omega
    have g1 : (x.type == y.type) = false := by simpa using e1
    have HF := hide (Ya hx (Ya hy (Ya hall (Ya bw (show eqFd x y = false by unfold eqFd; simp [e0, e1])))))
    clear hx hy hall bw e0 e1
    go_wp2_with fail
    go_region
    all_goals
     go_wp2_with fail
     go_ret
     obtain ⟨hx, hy, hall, bw, hr⟩ := Qa HF
     exact ⟨by rw [Qal hx hy hr]; rfl, bw.drew⟩
   have g0 : (x.name == y.name) = false := by simpa using e0
   have HF := hide (Ya hx (Ya hy (Ya hall (Ya bw (show eqFd x y = false by unfold eqFd; simp [e0])))))
   clear hx hy hall bw e0
   go_wp2_with fail
   go_region
   all_goals
    go_wp2_with fail
    go_ret
    obtain ⟨hx, hy, hall, bw, hr⟩ := Qa HF
    exact ⟨by rw [Qal hx hy hr]; rfl, bw.drew⟩
  obtain ⟨bw, hall⟩ := Qa HB
  have HF := hide (Ya bw hall)
  clear bw hall HB
  go_wp2_with fail
  go_ret
  obtain ⟨bw, hall⟩ := Qa HF
  obtain ⟨_, _, hn1, hn2⟩ := Qa HA
  exact ⟨by rw [Qbd (by omega) (fun q x' y' hx' hy' => hall q x' y' (by have := (List.getElem?_eq_some_iff.1 hx').1; omega) hx' hy')]; rfl, bw⟩
 have hne : ((n1 : Int) != (n2 : Int)) = true := by simp; omega
 go_enter Tryz.func60, Tryz.ntmps60
 go_wp2_with fail
 go_ret
 obtain ⟨_, _, hn1, hn2⟩ := Qa HA
 exact ⟨by rw [Qbw (by omega)]; rfl, Below.refl _ _⟩
end
section
open Go.RowKit Go.Maps
def eqTx (x y : Txt) : Bool := decide (x = y)
theorem equal_s {S : Nat → Prop} {w : World} {va vb : Value} {xs ys : List Txt} (ha : LsAt PSt 1 S w va xs) (hb : LsAt PSt 1 S w vb ys) :
  Calls Tryz.prog 61 #[va, vb] w fun en w' => en = .returned (.bool (eqL eqTx xs ys)) ∧ Below w.heap.size w w' := by
 obtain ⟨a1, p1, e1⟩ := ha.sl
 obtain ⟨a2, p2, e2⟩ := hb.sl
 have hm1 : xs.length ≤ p1 ∧ p1 ≤ maxLen := by
  obtain ⟨_, _, _, e, h1, h2, _⟩ := ha
  rw [e] at e1
  cases e1
  exact ⟨h1, h2⟩
 have hm2 : ys.length ≤ p2 ∧ p2 ≤ maxLen := by
  obtain ⟨_, _, _, e, h1, h2, _⟩ := hb
  rw [e] at e2
  cases e2
  exact ⟨h1, h2⟩
 unfold maxLen at hm1 hm2
 obtain ⟨n1, hn1⟩ : ∃ n, xs.length = n := ⟨_, rfl⟩
 obtain ⟨n2, hn2⟩ : ∃ n, ys.length = n := ⟨_, rfl⟩
 rw [hn1] at e1 hm1
 rw [hn2] at e2 hm2
 obtain ⟨hc1, hc2⟩ := hm1
 obtain ⟨hc3, hc4⟩ := hm2
 have HA := hide (Ya ha (Ya hb (Ya hn1 hn2)))
 have HV := hide (Ya e1 e2)
 rw [e1, e2]
 clear ha hb e1 e2 hn1 hn2
 by_cases hlen : n1 = n2
 ·
  subst hlen
  go_enter Tryz.func61, Tryz.ntmps61
  go_wp2_with fail
  go_loopw [13] (fun i wr => ∃ j : Nat, i = .int .i64 (j : Int) ∧ j ≤ n1 ∧ Hid (Below w.heap.size w wr ∧ ∀ q x y, q < j → xs[q]? = some x → ys[q]? = some y → eqTx x y = true)) (fun i _ => n1 - (intOf i).toNat)
  case atStart => exact ⟨0, rfl, Nat.zero_le _, hide ⟨Below.refl _ _, fun q _ _ hq => absurd hq (Nat.not_lt_zero _)⟩⟩
  obtain ⟨j, rfl, hj, HB⟩ := hrel
  by_cases hlt : j < n1
  ·
   obtain ⟨ha, hb, hn1, hn2⟩ := Qa HA
   obtain ⟨bw, hall⟩ := Qa HB
   obtain ⟨x, hx⟩ : ∃ x, xs[j]? = some x := ⟨xs[j]'(by omega), List.getElem?_eq_getElem _⟩
   obtain ⟨y, hy⟩ : ∃ y, ys[j]? = some y := ⟨ys[j]'(by omega), List.getElem?_eq_getElem _⟩
   obtain ⟨b1, q1, cs1, ev1, hb1, _, hl1, hp1, hc1'⟩ := (ha.later Qbf bw).elem hx
   obtain ⟨b2, q2, cs2, ev2, hb2, _, hl2, hp2, hc2'⟩ := (hb.later Qbf bw).elem hy
   have hp1 : cs1 = [str x] := hp1
   have hp2 : cs2 = [str y] := hp2
   subst hp1
   subst hp2
   rw [(Qa HV).1, hn1] at ev1
   rw [(Qa HV).2, hn2] at ev2
   simp only [Value.slice.injEq] at ev1 ev2
   obtain ⟨rfl, -, -⟩ := ev1
   obtain ⟨rfl, -, -⟩ := ev2
   simp only [Nat.mul_one] at hc1' hc2'
   have x_0 : wr.cell? ⟨b1, j, none⟩ = some (str x) := hc1' 0 _ rfl
   have y_0 : wr.cell? ⟨b2, j, none⟩ = some (str y) := hc2' 0 _ rfl
   clear ha hb hc1' hc2' hl1 hl2 hn1 hn2 HA HV HB
   by_cases e0 : x = y
   ·
    have g0 : (x == y) = true := by simpa using e0
    have HF := hide (Ya hx (Ya hy (Ya hall (Ya bw (show eqTx x y = true by unfold eqTx; simp [e0])))))
    clear hx hy hall bw e0
    go_wp2_with fail
    go_region
    all_goals
     go_wp2_with fail
     go_roundw
     case rel =>
      obtain ⟨hx, hy, hall, bw, hr⟩ := Qa HF
      refine ⟨j + 1, by go_num, by omega, hide ⟨bw.drew, fun q x' y' hq hx' hy' => ?_⟩⟩
      by_cases e : q = j
      ·
       subst e
       rw [hx] at hx'
       rw [hy] at hy'
       cases hx'
       cases hy'
       exact hr
      · exact hall q x' y' (by omega) hx' hy'
     case measure => simp [intOf]; omega
   have g0 : (x == y) = false := by simpa using e0
   have HF := hide (Ya hx (Ya hy (Ya hall (Ya bw (show eqTx x y = false by unfold eqTx; simp [e0])))))
   clear hx hy hall bw e0
   go_wp2_with fail
   go_region
   all_goals
    go_wp2_with fail
    go_ret
    obtain ⟨hx, hy, hall, bw, hr⟩ := Qa HF
    exact ⟨by rw [Qal hx hy hr]; rfl, bw.drew⟩
  obtain ⟨bw, hall⟩ := Qa HB
  have HF := hide (Ya bw hall)
  clear bw hall HB
  go_wp2_with fail
  go_ret
  obtain ⟨bw, hall⟩ := Qa HF
  obtain ⟨_, _, hn1, hn2⟩ := Qa HA
  exact ⟨by rw [Qbd (by omega) (fun q x' y' hx' hy' => hall q x' y' (by have := (List.getElem?_eq_some_iff.1 hx').1; omega) hx' hy')]; rfl, bw⟩
 have hne : ((n1 : Int) != (n2 : Int)) = true := by simp; omega
 go_enter Tryz.func61, Tryz.ntmps61
 go_wp2_with fail
 go_ret
 obtain ⟨_, _, hn1, hn2⟩ := Qa HA
 exact ⟨by rw [Qbw (by omega)]; rfl, Below.refl _ _⟩
end
end Go.Proofs.YtjebglmpopijhaaGreatDoor
