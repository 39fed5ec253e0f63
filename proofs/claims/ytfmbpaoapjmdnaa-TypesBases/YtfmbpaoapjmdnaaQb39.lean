/- The document's Parse: some program in memory, of any text. -/
import Derived.Test.YtfmbpaoapjmdnaaQb36
import Derived.Test.YtfmbpaoapjmdnaaQb08
set_option maxRecDepth 100000
set_option maxHeartbeats 32000000
namespace Go.Proofs.Ytfmbpaoapjmdnaa
section
open Go.RowKit Go.Maps
theorem Qev : ∀ (m : Nat) (t : Txt), t.length ≤ m → ∀ v n, txScan t = .ok v n → v.length ≤ t.length
 | 0, t, hl, v, n, h => by
  have : t = [] := List.eq_nil_of_length_eq_zero (by omega)
  subst this
  simp [txScan] at h
 | m + 1, [], _, v, n, h => by simp [txScan] at h
 | m + 1, [c], _, v, n, h => by
  unfold txScan at h
  split at h
  · cases h; simp
  split at h
  · cases h
  · split at h <;> cases h
 | m + 1, c :: d :: t, hl, v, n, h => by
  simp only [List.length_cons] at hl
  unfold txScan at h
  split at h
  · cases h; simp
  split at h
  · cases h
  split at h
  ·
   cases he : esc d with
   | none => rw [he] at h; cases h
   | some b =>
    rw [he] at h
    cases ht : txScan t with
    | ok v' n' =>
     rw [ht] at h
     cases h
     have := Qev m t (by omega) v' n' ht
     simp only [List.length_cons]; omega
    | bad o => rw [ht] at h; cases h
    | never => rw [ht] at h; cases h
  cases ht : txScan (d :: t) with
  | ok v' n' =>
   rw [ht] at h
   cases h
   have := Qev m (d :: t) (by simp only [List.length_cons]; omega) v' n' ht
   simp only [List.length_cons] at this ⊢; omega
  | bad o => rw [ht] at h; cases h
  | never => rw [ht] at h; cases h
theorem tok_len {r : Txt} {kd : Int} {tx : Txt} {nm : Int} {n : Nat} (h : tokAt r = .tok kd tx nm n) : tx.length ≤ r.length := by
 cases r with
 | nil => simp [tokAt] at h
 | cons c t =>
  rw [Qdp] at h
  split at h
  ·
   unfold nmRes at h
   split at h
   · cases h
   · cases h; rw [List.length_take]; omega
  split at h
  ·
   unfold dgRes at h
   split at h
   · cases h
   split at h
   · cases h
   · cases h; simp
  split at h
  ·
   unfold txRes at h
   cases ht : txScan t with
   | ok v m =>
    rw [ht] at h
    cases h
    have := Qev _ t (Nat.le_refl _) _ _ ht
    simp only [List.length_cons]; omega
   | bad o => rw [ht] at h; cases h
   | never => rw [ht] at h; cases h
  unfold sgRes at h
  split at h
  · cases h
  · cases h; rw [List.length_take]; omega
theorem Qqf : ∀ (m : Nat) (r : Txt) (k : Nat), r.length ≤ m → ∀ l, scan k r = .ok l → ∀ t ∈ l, t.text.length ≤ r.length := by
 intro m
 induction m with
 | zero =>
  intro r k h l hl
  have : r = [] := List.eq_nil_of_length_eq_zero (by omega)
  subst this
  rw [Qci] at hl
  cases hl
  exact fun t ht => by cases ht
 | succ m ih =>
  intro r k h l hl
  by_cases h0 : r = []
  · subst h0; rw [Qci] at hl; cases hl; exact fun t ht => by cases ht
  cases hg : gapAt r with
  | never => rw [Qd hg] at hl; cases hl
  | gap n =>
   have hp := Qdf hg
   rw [Qdn hg] at hl
   have g2 := ih (r.drop n) (k + n) (by rw [List.length_drop]; omega) l hl
   rw [List.length_drop] at g2
   exact fun t ht => by have := g2 t ht; omega
  | none =>
   cases ht : tokAt r with
   | bad w o => rw [Qcs h0 hg ht] at hl; cases hl
   | tok kd tx nm n =>
    have hp := Qcw ht
    rw [Qeh hg ht] at hl
    cases hs : scan (k + n) (r.drop n) with
    | bad w a => rw [hs] at hl; cases hl
    | ok l1 =>
     rw [hs] at hl
     cases hl
     have g2 := ih (r.drop n) (k + n) (by rw [List.length_drop]; omega) l1 hs
     rw [List.length_drop] at g2
     refine fun t htm => ?_
     rcases List.mem_cons.1 htm with rfl | h2
     · exact tok_len ht
     · have := g2 t h2; omega
theorem Qna {s : Txt} {l : List Tok} (h : lexP s = .ok l) : ∀ t ∈ l, t.text.length ≤ s.length := by
 unfold lexP at h
 split at h
 · cases h
 · exact Qqf s.length s 0 (Nat.le_refl _) l h
theorem tok_ne {r : Txt} {kd : Int} {tx : Txt} {nm : Int} {n : Nat} (h : tokAt r = .tok kd tx nm n) (hk : kd = 1) : tx ≠ [] := by
 have hp := Qcw h
 cases r with
 | nil => simp [tokAt] at h
 | cons c t =>
  rw [Qdp] at h
  split at h
  ·
   unfold nmRes at h
   split at h
   · cases h
   cases h
   intro e
   have := congrArg List.length e
   rw [List.length_take] at this
   simp only [List.length_nil] at this
   omega
  split at h
  ·
   unfold dgRes at h
   split at h
   · cases h
   split at h
   · cases h
   · cases h; exact absurd hk (by decide)
  split at h
  ·
   unfold txRes at h
   cases ht : txScan t with
   | ok v m => rw [ht] at h; cases h; exact absurd hk (by decide)
   | bad o => rw [ht] at h; cases h
   | never => rw [ht] at h; cases h
  unfold sgRes at h
  split at h
  · cases h
  · cases h; exact absurd hk (by decide)
theorem scan_ne : ∀ (m : Nat) (r : Txt) (k : Nat), r.length ≤ m → ∀ l, scan k r = .ok l → NeT l := by
 intro m
 induction m with
 | zero =>
  intro r k h l hl
  have : r = [] := List.eq_nil_of_length_eq_zero (by omega)
  subst this
  rw [Qci] at hl
  cases hl
  exact fun t ht => by cases ht
 | succ m ih =>
  intro r k h l hl
  by_cases h0 : r = []
  · subst h0; rw [Qci] at hl; cases hl; exact fun t ht => by cases ht
  cases hg : gapAt r with
  | never => rw [Qd hg] at hl; cases hl
  | gap n =>
   have hp := Qdf hg
   rw [Qdn hg] at hl
   exact ih (r.drop n) (k + n) (by rw [List.length_drop]; omega) l hl
  | none =>
   cases ht : tokAt r with
   | bad w o => rw [Qcs h0 hg ht] at hl; cases hl
   | tok kd tx nm n =>
    have hp := Qcw ht
    rw [Qeh hg ht] at hl
    cases hs : scan (k + n) (r.drop n) with
    | bad w a => rw [hs] at hl; cases hl
    | ok l1 =>
     rw [hs] at hl
     cases hl
     have g2 := ih (r.drop n) (k + n) (by rw [List.length_drop]; omega) l1 hs
     intro t htm hk
     rcases List.mem_cons.1 htm with rfl | h2
     · exact tok_ne ht hk
     · exact g2 t h2 hk
theorem lex_ne {s : Txt} {l : List Tok} (h : lexP s = .ok l) : NeT l := by
 unfold lexP at h
 split at h
 · cases h
 · exact scan_ne s.length s 0 (Nat.le_refl _) l h
theorem Qjq (S : Nat → Prop) (w : World) : PgS S w [.slice none 0 0, .slice none 0 0, .slice none 0 0, .slice none 0 0, .slice none 0 0] .none := Qrf (LsAt.nil _ _) (LsAt.nil _ _) (LsAt.nil _ _) (LsAt.nil _ _) (LsAt.nil _ _)
theorem Qks {w : World} {B : Nat} {v : Value} {toks : List Tok} (ho : w.ownsRow B 54 4 v toks.length (tokCells toks)) (hl : toks.length ≤ 65536) (e : Tok) :
  ∃ v1 w1 v2 w2, (Builtin.append_ #[50, 50] 50 #[.slice none 0 0, v]).run Try.prog w = .ok v1 w1 ∧ Below w.heap.size w w1 ∧ (Builtin.append_ #[50, 50] 50 #[v1, .slice (some ⟨w1.heap.size, 0, none⟩) 1 1]).run Try.prog (w1.alloc (.cells (tokVals e).toArray 54)) = .ok v2 w2 ∧ Below w.heap.size w w2 ∧ (∃ a n c, v1 = .slice a n c) ∧ ∃ g cap, v2 = .slice (some ⟨g, 0, none⟩) (toks ++ [e]).length cap ∧ RowAt w2 g cap (toks ++ [e]) ∧ w.heap.size ≤ g := by
 obtain ⟨i0, hi, hz, hsz, hby⟩ := Qfr
 have ht : Try.prog.underlying 50 = some (.slice 54) := by kernel_rfl
 have hfl : ∀ l : List Tok, (tokCells l).length = l.length * 4 := fun l => by
  induction l with
  | nil => rfl
  | cons t l ih => simp only [tokCells, List.flatMap_cons, List.length_append, List.length_cons] at ih ⊢; rw [ih]; simp [tokVals]; omega
 have h1c : ∀ l : List Tok, ∀ c ∈ tokCells l, c.oneCell' = true := fun l c hc => by
  obtain ⟨t, _, h2⟩ := List.mem_flatMap.1 hc
  simp only [tokVals, List.mem_cons, List.not_mem_nil, or_false] at h2
  rcases h2 with rfl | rfl | rfl | rfl <;> rfl
 have H1 : ∃ v1 w1, (Builtin.append_ #[50, 50] 50 #[.slice none 0 0, v]).run Try.prog w = .ok v1 w1 ∧ Below w.heap.size w w1 ∧ w1.ownsRow w.heap.size 54 4 v1 toks.length (tokCells toks) := by
  rcases id ho.2 with ⟨rfl, e2⟩ | ⟨g, cap, cur, rfl, hg, hh, hle, hcm, hcs⟩
  ·
   have e3 : toks = [] := List.eq_nil_of_length_eq_zero e2
   subst e3
   refine ⟨.slice none 0 0, w, ?_, Below.refl _ _, World.ownsRow_nil _ _ _ _⟩
   simp [Builtin.append_, run_underlying ht, sizeOf, typeInfo, hi, Builtin.lenOf, Builtin.firstCells]
  obtain ⟨r, w8, hr, o8, g8, _, _⟩ := run_append_own_at (P := Try.prog) w w.heap.size 50 50 54 i0 _ 4 40 ht hi hz hsz hby rfl (by decide) (.slice none 0 0) 0 [] (World.ownsRow_nil _ _ _ _) ⟨g, 0, none⟩ toks.length cap (tokCells toks) (hfl toks) (fun j u hj => by
   have e1 : (⟨g, 0, none⟩ : Addr).add j = ⟨g, j, none⟩ := by cases j <;> simp [Addr.add]
   rw [e1, World.ownsRow.cellAt ho j (by have := (List.getElem?_eq_some_iff.1 hj).1; rw [hfl] at this; exact this)]
   exact hj) (h1c toks) (by unfold maxLen; omega) (by omega) (Nat.le_refl _)
  rw [Nat.zero_add, List.nil_append] at o8
  exact ⟨r, w8, hr, ⟨g8.os, g8.tape, g8.output, g8.size, fun q hq => g8.block q hq (by simp [Value.ownBlock])⟩, o8⟩
 obtain ⟨v1, w1, r1, b1, o1⟩ := H1
 have hown : ∀ b, some b = v1.ownBlock → w.heap.size ≤ b ∧ b < w1.heap.size := fun b e => World.ownsRow.lt o1 b e.symm
 have hs1 := b1.size
 obtain ⟨v2, w2, r2, o2, g2, _, _⟩ := run_append_own_at (P := Try.prog) (w1.alloc (.cells (tokVals e).toArray 54)) w.heap.size 50 50 54 i0 _ 4 40 ht hi hz hsz hby rfl (by decide) v1 toks.length (tokCells toks) (World.ownsRow.alloc o1 _) ⟨w1.heap.size, 0, none⟩ 1 1 (tokVals e) rfl (fun j u hj => by
  have e1 : (⟨w1.heap.size, 0, none⟩ : Addr).add j = ⟨w1.heap.size, j, none⟩ := by cases j <;> simp [Addr.add]
  rw [e1, Qaf (heap_alloc_new w1 _)]
  simpa using hj) (fun c hc => by
  simp only [tokVals, List.mem_cons, List.not_mem_nil, or_false] at hc
  rcases hc with rfl | rfl | rfl | rfl <;> rfl) (by unfold maxLen; omega) (by omega) (by simp; omega)
 have b2 : Below w.heap.size w w2 := by
  have ba := (Below.refl w1.heap.size w1).alloc (Nat.le_refl _) (.cells (tokVals e).toArray 54)
  have hsa : (w1.alloc (.cells (tokVals e).toArray 54)).heap.size = w1.heap.size + 1 := by simp
  refine ⟨g2.os.trans (ba.os.trans b1.os), g2.tape.trans (ba.tape.trans b1.tape), g2.output.trans (ba.output.trans b1.output), by have := g2.size; omega, fun q hq => ?_⟩
  rw [g2.block q (by omega) (fun e => by have := (hown q e).1; omega), ba.block q (by omega), b1.block q hq]
 rw [← Qej] at o2
 have o3 : w2.ownsRow w.heap.size 54 4 v2 (toks ++ [e]).length (tokCells (toks ++ [e])) := by rw [List.length_append]; exact o2
 refine ⟨v1, w1, v2, w2, r1, b1, r2, b2, ?_, ?_⟩
 ·
  rcases o1.2 with ⟨e, _⟩ | ⟨_, _, _, e, _⟩
  · exact ⟨_, _, _, e⟩
  · exact ⟨_, _, _, e⟩
 rcases row_of o3 with ⟨_, e⟩ | ⟨g, cap, e, hr⟩
 · simp at e
 · exact ⟨g, cap, e, hr, (World.ownsRow.lt o3 g (by rw [e]; rfl)).1⟩
def RpA (w : World) (en : Ending) (w' : World) : Prop := ∃ p0 m0 o0 p1 m1 o1 p2 m2 o2 p3 m3 o3 p4 m4 o4 why at_ p, en = .returned (.tuple #[.agg #[.slice p0 m0 o0, .slice p1 m1 o1, .slice p2 m2 o2, .slice p3 m3 o3, .slice p4 m4 o4], .agg #[.int .i64 why, .int .i64 at_]]) ∧ Below w.heap.size w w' ∧ PgS (fun b => w.heap.size ≤ b) w' [.slice p0 m0 o0, .slice p1 m1 o1, .slice p2 m2 o2, .slice p3 m3 o3, .slice p4 m4 o4] p ∧ p.types.length ≤ 97 ∧ WfT p
theorem Qlo (s : ByteArray) (hs : s.size ≤ 281474976710656) (w : World) : Calls Try.prog 6 #[.string s] w fun en w' => RpA w en w' := by
 obtain ⟨w2, hw2⟩ : ∃ w2, w2 = (w.alloc pgZ).alloc ftZ := ⟨_, rfl⟩
 have b2 : Below w.heap.size w w2 := by rw [hw2]; exact ((Below.refl _ w).alloc (Nat.le_refl _) _).alloc (by simp) _
 have s2 : w2.heap.size = w.heap.size + 2 := by rw [hw2]; simp
 have p2 : w2.heap[w.heap.size]? = some pgZ := by rw [hw2, Below.heap_alloc _ _ _ (by simp)]; exact heap_alloc_new w _
 have f2 : w2.heap[w.heap.size + 1]? = some ftZ := by
  rw [hw2]
  have := heap_alloc_new (w.alloc pgZ) ftZ
  simpa using this
 have htk := Qfy s hs w2
 have HW2 : Hid (w2 = (w.alloc (.cells #[.slice none 0 0, .slice none 0 0, .slice none 0 0, .slice none 0 0, .slice none 0 0] 28)).alloc (.cells #[.int .i64 0, .int .i64 0] 31)) := hw2
 have K2 := hide (Ya b2 (Ya p2 (Ya f2 s2)))
 obtain ⟨PO, hPO⟩ : ∃ PO : Ending → World → Prop, PO = fun en w' => RpA w en w' := ⟨_, rfl⟩
 rw [← hPO]
 have HPO := hide hPO
 have hri := Qnb s.data.toList
 have hsz : s.data.toList.length = s.size := (Qct s).symm
 clear b2 s2 p2 f2 hw2 hPO
 cases hq : lexP s.data.toList with
 | bad why at1 =>
  rw [hq] at htk hri
  have hz : (why == 0) = false := beq_eq_false_iff_ne.2 hri.1
  clear hq hri hsz
  go_enter Try.func6, Try.ntmps6
  go_wp2_with fail
  rw [← Qa HW2]
  refine htk.mono ?_
  clear htk HW2
  rintro en w3 ⟨v, rfl, hown, b3⟩
  obtain ⟨b2, p2, f2, s2⟩ := Qa K2
  have hs3 := b3.size
  obtain ⟨w4, hw4⟩ : ∃ w4, w4 = w3.alloc (.cells #[.int .i64 why, .int .i64 (at1 : Int)] 31) := ⟨_, rfl⟩
  have n4 : w4.heap[w3.heap.size]? = some (.cells #[.int .i64 why, .int .i64 (at1 : Int)] 31 (0, 0)) := by rw [hw4]; exact heap_alloc_new w3 _
  have b4 : Below w2.heap.size w2 w4 := by rw [hw4]; exact b3.alloc b3.size _
  have P0 := (b4.block _ (Qab p2)).trans p2
  have F0 := (b4.block _ (Qab f2)).trans f2
  have B0 : Below w.heap.size w w4 := b2.trans (b4.mono (by omega))
  have hs4 := b4.size
  obtain ⟨c0, c1, cf⟩ := cl2 n4
  have HW4 := hide hw4
  clear hw4
  simp only [Out.why, Out.fa]
  go_wp2_with fail
  rw [← Qa HW4]
  clear HW4
  obtain ⟨W5, hW5⟩ : ∃ W5, W5 = (((((w4.setCell ⟨w.heap.size, 0, none⟩ (.slice none 0 0)).setCell ⟨w.heap.size, 1, none⟩ (.slice none 0 0)).setCell ⟨w.heap.size, 2, none⟩ (.slice none 0 0)).setCell ⟨w.heap.size, 3, none⟩ (.slice none 0 0)).setCell ⟨w.heap.size, 4, none⟩ (.slice none 0 0)).drew := ⟨_, rfl⟩
  have oW5 : ∀ k, k ≠ w.heap.size → W5.heap[k]? = w4.heap[k]? := fun k hk => by rw [hW5, show ∀ v : World, v.drew.heap = v.heap from fun _ => rfl, hpS hk, hpS hk, hpS hk, hpS hk, hpS hk]
  have P5' : W5.heap[w.heap.size]? = some (.cells #[.slice none 0 0, .slice none 0 0, .slice none 0 0, .slice none 0 0, .slice none 0 0] 28 (0, 0)) := by rw [hW5]; exact (Qah (Qah (Qah (Qah (Qah P0 0 _) 1 _) 2 _) 3 _) 4 _).trans rfl
  have F5 := (oW5 (w.heap.size + 1) (by omega)).trans F0
  have B5 : Below w.heap.size w W5 := by rw [hW5]; exact (((((B0.setCell (p := ⟨w.heap.size, 0, none⟩) (Nat.le_refl _) _).setCell (p := ⟨w.heap.size, 1, none⟩) (Nat.le_refl _) _).setCell (p := ⟨w.heap.size, 2, none⟩) (Nat.le_refl _) _).setCell (p := ⟨w.heap.size, 3, none⟩) (Nat.le_refl _) _).setCell (p := ⟨w.heap.size, 4, none⟩) (Nat.le_refl _) _).drew
  have sW5 : W5.heap.size = w4.heap.size := by rw [hW5]; simp
  obtain ⟨y0, y1, yf⟩ := cl2 F5
  obtain ⟨W7, hW7⟩ : ∃ W7, W7 = ((W5.setCell ⟨w.heap.size + 1, 0, none⟩ (.int .i64 why)).setCell ⟨w.heap.size + 1, 1, none⟩ (.int .i64 (at1 : Int))) := ⟨_, rfl⟩
  have oW7 : ∀ k, k ≠ w.heap.size + 1 → W7.heap[k]? = W5.heap[k]? := fun k hk => by rw [hW7, hpS hk, hpS hk]
  have F7 : W7.heap[w.heap.size + 1]? = some (.cells #[.int .i64 why, .int .i64 (at1 : Int)] 31 (0, 0)) := by rw [hW7]; exact (Qah (Qah F5 0 _) 1 _).trans rfl
  have P7 := (oW7 w.heap.size (by omega)).trans P5'
  have B7 : Below w.heap.size w W7 := by rw [hW7]; exact (B5.setCell (p := ⟨w.heap.size + 1, 0, none⟩) (by show w.heap.size ≤ w.heap.size + 1; omega) _).setCell (p := ⟨w.heap.size + 1, 1, none⟩) (by show w.heap.size ≤ w.heap.size + 1; omega) _
  have sW7 : W7.heap.size = W5.heap.size := by rw [hW7]; simp
  obtain ⟨x0, x1, x2, x3, x4, xf⟩ := cl5 P0
  have HN := hide (Ya n4 (Ya ((oW5 w3.heap.size (by omega)).trans n4) ((oW7 w3.heap.size (by omega)).trans ((oW5 w3.heap.size (by omega)).trans n4))))
  have HU := hide (Ya P7 (Ya F7 B7))
  have HW5 := hide hW5
  have HW7 := hide hW7
  clear hW5 oW5 P5' F5 B5 sW5 hW7 oW7 F7 P7 B7 sW7 hown b3 b2 p2 f2 s2 hs3 n4 b4 P0 F0 B0 hs4 K2
  go_wp2_with fail
  refine Qam (m := 3) (ml := [(0, 1), (1, 1), (2, 0), (3, 0)]) (fun _ w' => w'.heap[w3.heap.size]? = some (.cells #[.int .i64 why, .int .i64 (at1 : Int)] 31 (0, 0))) mixedO (by kernel_rfl) rfl (by rfl) (by kernel_rfl) (fun PP hPP => ?_)
  refine Qad rfl (by kernel_rfl) (fun _ _ _ => by go_simp <;> rfl) ?_
  refine Qad rfl (by kernel_rfl) (fun f w' hw => by obtain ⟨u0, u1, uf⟩ := cl2 hw; go_simp <;> rfl) ?_
  refine Qaa rfl (Qa HN).1 (fun K hK => ?_)
  go_simp
  rw [← Qa HW5]
  refine hK _ _ ?_
  clear hK K HW5 x0 x1 x2 x3 x4 xf
  refine Qaa rfl (Qa HN).2.1 (fun K hK => ?_)
  go_simp
  rw [← Qa HW7]
  refine hK _ _ ?_
  clear hK K HW7 y0 y1 yf
  refine Qap (Qa HN).2.2 (hPP _ _ ?_)
  clear hPP PP
  obtain ⟨p7, f7, b07⟩ := Qa HU
  obtain ⟨u0, u1, u2, u3, u4, uf⟩ := cl5 p7
  obtain ⟨t0, t1, tf⟩ := cl2 f7
  go_wp2_with fail
  refine bodyPost_ret (v := .tuple #[.agg #[.slice none 0 0, .slice none 0 0, .slice none 0 0, .slice none 0 0, .slice none 0 0], .agg #[.int .i64 why, .int .i64 (at1 : Int)]]) (by simp [results, Try.results6, go_sem, u0, u1, u2, u3, u4, t0, t1]) rfl ?_
  rw [Qa HPO]
  exact ⟨_, _, _, _, _, _, _, _, _, _, _, _, _, _, _, _, _, .none, rfl, b07, Qjq _ _, Nat.zero_le _, Qff⟩
 | ok toks =>
  rw [hq] at htk hri
  obtain ⟨g1, g2, g3⟩ := Qr hq
  have g4 := Qna hq
  have HNT := hide (lex_ne hq)
  have hat : ∀ t ∈ toks, t.at_ ≤ 65536 := fun t ht => by have := Ris.at hri t ht; omega
  rw [hsz] at g1 g2 g4
  have HT := hide (Ya hat (Ya g1 (Ya g2 g4)))
  clear hq hri hsz hat g2 g3 g4
  go_enter Try.func6, Try.ntmps6
  go_wp2_with fail
  rw [← Qa HW2]
  refine htk.mono ?_
  clear htk HW2
  rintro en w3 ⟨v, rfl, hown, b3⟩
  obtain ⟨b2, p2, f2, s2⟩ := Qa K2
  have hs3 := b3.size
  obtain ⟨hat, _, g2, g4⟩ := Qa HT
  obtain ⟨w4, hw4⟩ : ∃ w4, w4 = w3.alloc ftZ := ⟨_, rfl⟩
  have n4 : w4.heap[w3.heap.size]? = some ftZ := by rw [hw4]; exact heap_alloc_new w3 _
  have b4 : Below w2.heap.size w2 w4 := by rw [hw4]; exact b3.alloc b3.size _
  have s4 : w4.heap.size = w3.heap.size + 1 := by rw [hw4]; simp
  have ho4 : w4.ownsRow w2.heap.size 54 4 v toks.length (tokCells toks) := by rw [hw4]; exact World.ownsRow.alloc hown _
  obtain ⟨v1, w5, v2, w7, r1, b5, r2, b7, ⟨v1a, v1n, v1c, e1⟩, tg, tc, e2, hrow, htg⟩ := Qks ho4 (by omega) ⟨0, [], 0, s.size⟩
  obtain ⟨l, hl⟩ : ∃ l, toks ++ [(⟨0, [], 0, s.size⟩ : Tok)] = l := ⟨_, rfl⟩
  have HNE : Hid (NeT l) := hide (fun t ht hk => by
   rw [← hl] at ht
   rcases List.mem_append.1 ht with h | h
   · exact Qa HNT t h hk
   simp only [List.mem_singleton] at h
   subst h
   exact absurd (show (0 : Int) = 1 from hk) (by decide))
  rw [hl] at hrow e2
  obtain ⟨tn, htn⟩ : ∃ tn, l.length = tn := ⟨_, rfl⟩
  have hln : tn = toks.length + 1 := by rw [← htn, ← hl]; simp
  rw [htn] at e2
  subst e1 e2
  obtain ⟨rb, hrb⟩ : ∃ rb, w7.heap.size = rb := ⟨_, rfl⟩
  obtain ⟨w8, hw8⟩ : ∃ w8, w8 = w7.alloc (.cells #[.slice (some ⟨tg, 0, none⟩) tn tc, .int .i64 0, .int .i64 0, .int .i64 0, .int .i64 0, .int .i64 0] 56) := ⟨_, rfl⟩
  have b8 : Below w7.heap.size w7 w8 := by rw [hw8]; exact (Below.refl _ w7).alloc (Nat.le_refl _) _
  have n8 : w8.heap[rb]? = some (.cells #[.slice (some ⟨tg, 0, none⟩) tn tc, .int .i64 0, .int .i64 0, .int .i64 0, .int .i64 0, .int .i64 0] 56 (0, 0)) := by rw [hw8, ← hrb]; exact heap_alloc_new w7 _
  have hR : Rr rb tg tc l w8 0 0 0 0 0 := by
   refine ⟨by rw [htn]; exact n8, hrow.later b8, by have := hrow.lt; omega, by omega, by omega, fun t ht => ?_, fun t ht => ?_, fun _ => rfl, by omega, by omega, fun t ht => ?_⟩
   ·
    rw [← hl] at ht
    rcases List.mem_append.1 ht with h | h
    · exact hat t h
    · simp only [List.mem_singleton] at h; subst h; exact g1
   ·
    rw [htn, hln, ← hl, Nat.add_sub_cancel, List.getElem?_append_right (Nat.le_refl _), Nat.sub_self] at ht
    cases ht; rfl
   rw [← hl] at ht
   rcases List.mem_append.1 ht with h | h
   · have := g4 t h; omega
   · simp only [List.mem_singleton] at h; subst h; exact Nat.zero_le _
  have hs7 := b7.size
  have hs8 := b8.size
  have bw8 : Below w2.heap.size w2 w8 := (b4.trans (b7.mono (by omega))).trans (b8.mono (by omega))
  have p8 := (bw8.block _ (Qab p2)).trans p2
  have f8 := (bw8.block _ (Qab f2)).trans f2
  have B8 : Below w.heap.size w w8 := b2.trans (bw8.mono (by omega))
  have hpr := Qis 33 0 rfl w8 0 0 0 0 hR (by omega) (fun _ => ⟨by omega, by omega⟩)
  have c0 : w4.cell? ⟨w3.heap.size, 0, none⟩ = some (.int .i64 0) := by rw [Qaf n4]; rfl
  have c1 : w4.cell? ⟨w3.heap.size, 1, none⟩ = some (.int .i64 0) := by rw [Qaf n4]; rfl
  have K8 := hide (Ya B8 (Ya p8 (Ya f8 (show w.heap.size + 2 ≤ rb ∧ rb < w8.heap.size ∧ w.heap.size + 2 ≤ tg by have := Qab n8; omega))))
  have HL := hide htn
  have HW4 : Hid (w4 = w3.alloc (.cells #[.int .i64 0, .int .i64 0] 31)) := hw4
  have HW8 := hide (Ya hw8 hrb)
  have r2' : (Builtin.append_ #[50, 50] 50 #[.slice v1a v1n v1c, .slice (some ⟨w5.heap.size, 0, none⟩) 1 1]).run Try.prog (w5.alloc (.cells #[.int .i64 0, .string ⟨#[]⟩, .int .i64 0, .int .i64 (s.size : Int)] 54)) = .ok (.slice (some ⟨tg, 0, none⟩) tn tc) w7 := r2
  have HR1 := hide r1
  have HR2 := hide r2'
  have hsl : s.size ≤ 65536 := g1
  clear hown b3 b2 p2 f2 s2 hs3 hat g2 g4 hw4 n4 b4 s4 ho4 r1 b5 r2 r2' b7 hrow htg hl htn hln hrb hw8 b8 n8 hR hs7 hs8 bw8 p8 f8 B8 K2 g1 HT
  simp only [Out.why, Out.fa]
  go_upto_region 2 with fail
  rw [← Qa HW4]
  clear HW4
  go_wp2_with (at_builtin; first
   | (refine Qaj _ rfl _ _ 50 rfl _ _ rfl rfl _ _ (Qa HR1) ?_; clear HR1)
   | (refine Qaj _ rfl _ _ 50 rfl _ _ rfl rfl _ _ (Qa HR2) ?_; clear HR2))
  rw [← (Qa HW8).1, (Qa HW8).2]
  clear HW8 c0 c1
  refine hpr.mono ?_
  clear hpr
  rintro en w9 ⟨_, a9, i9, y9, f9, rfl, ⟨pg, p0, m0, o0, p1, m1, o1, p2, m2, o2, p3, m3, o3, p4, m4, o4, rfl, hpg, hct, hwf⟩, hY9, h9, k9⟩
  have WFX := hide (Ya hct (show y9 = 0 → WfT pg from fun e => hwf ((Rr.ok h9).2 e) (Qa HNE)))
  clear hct hwf
  obtain ⟨B8, p8, f8, g1, g2, g3⟩ := Qa K8
  obtain ⟨pb, hpb⟩ : ∃ pb, w9.heap.size = pb := ⟨_, rfl⟩
  obtain ⟨w10, hw10⟩ : ∃ w10, w10 = w9.alloc (.cells #[.slice p0 m0 o0, .slice p1 m1 o1, .slice p2 m2 o2, .slice p3 m3 o3, .slice p4 m4 o4] 28) := ⟨_, rfl⟩
  have b10 : Below w9.heap.size w9 w10 := by rw [hw10]; exact (Below.refl _ w9).alloc (Nat.le_refl _) _
  have n10 : w10.heap[pb]? = some (.cells #[.slice p0 m0 o0, .slice p1 m1 o1, .slice p2 m2 o2, .slice p3 m3 o3, .slice p4 m4 o4] 28 (0, 0)) := by rw [hw10, ← hpb]; exact heap_alloc_new w9 _
  have hs9 := k9.size
  have k10 : Kp rb w8 w10 := k9.trans (Kp.of_below b10)
  have h10 := h9.later b10
  have hpg10 : PgS (fun b => w.heap.size + 2 ≤ b ∧ b ≠ rb) w10 [.slice p0 m0 o0, .slice p1 m1 o1, .slice p2 m2 o2, .slice p3 m3 o3, .slice p4 m4 o4] pg := Qar.mono _ _ _ _ _ (Qar.same _ _ w10 _ _ hpg b10.size (fun b _ hl => b10.block b hl)) (fun b _ hb => by have hb' : w8.heap.size ≤ b := hb; exact ⟨by omega, by omega⟩)
  obtain ⟨t, ht⟩ := h10.tok
  have hnw := Qak h10 ht
  unfold tkA at hnw
  have K10 := hide (Ya (B8.trans (k10.bel (by omega) B8.size)) (Ya (k10.keep p8 (by omega)) (Ya (k10.keep f8 (by omega)) (Ya g1 (Ya g2 (Ya h10 (Ya n10 (Ya (show rb < pb by omega) hpg10))))))))
  have HW10 := hide (Ya hw10 hpb)
  clear hpg hY9 h9 k9 B8 p8 f8 g1 g2 g3 hpb hw10 b10 n10 hs9 k10 h10 hpg10 ht K8
  go_wp2_with fail
  rw [← (Qa HW10).1, (Qa HW10).2]
  clear HW10
  refine hnw.mono ?_
  clear hnw
  rintro en w11 ⟨rfl, b11⟩
  have H11 := hide (show Below w.heap.size w w11 ∧ w11.heap[w.heap.size]? = some pgZ ∧ w11.heap[w.heap.size + 1]? = some ftZ ∧ w.heap.size + 2 ≤ rb ∧ Rr rb tg tc l w11 a9 0 i9 y9 f9 ∧ w11.heap[pb]? = some (.cells #[.slice p0 m0 o0, .slice p1 m1 o1, .slice p2 m2 o2, .slice p3 m3 o3, .slice p4 m4 o4] 28 (0, 0)) ∧ rb < pb ∧ PgS (fun b => w.heap.size + 2 ≤ b ∧ b ≠ rb) w11 [.slice p0 m0 o0, .slice p1 m1 o1, .slice p2 m2 o2, .slice p3 m3 o3, .slice p4 m4 o4] pg by
   obtain ⟨B8, p8, f8, g1, g2, h10, n10, hpb, hpg10⟩ := Qa K10
   exact ⟨B8.trans (b11.mono B8.size), (b11.block _ (Qab p8)).trans p8, (b11.block _ (Qab f8)).trans f8, g1, h10.later b11, (b11.block _ (Qab n10)).trans n10, hpb, Qar.same _ _ _ _ _ hpg10 b11.size (fun b _ hl => b11.block b hl)⟩)
  clear b11 K10
  by_cases kt : t.kind = 0
  ·
   have gt : (t.kind != 0) = false := by simpa using kt
   clear kt
   go_wp2_with fail
   rename_i hK
   refine hK _ _ ?_
   clear hK
   by_cases hy : y9 = 0
   ·
    have hwl := Qao (Qa H11).2.2.2.2.1
    rw [decide_eq_true hy] at hwl
    have HYZ := hide hy
    clear hy
    go_wp2_with fail
    refine hwl.mono ?_
    clear hwl
    rintro en wq ⟨rfl, rfl⟩
    obtain ⟨B0, P0, F0, hrb, _, bp, hpb, hpg⟩ := Qa H11
    obtain ⟨v0, v1, v2, v3, v4, vf⟩ := cl5 bp
    obtain ⟨W5, hW5⟩ : ∃ W5, W5 = (((((wq.setCell ⟨w.heap.size, 0, none⟩ (.slice p0 m0 o0)).setCell ⟨w.heap.size, 1, none⟩ (.slice p1 m1 o1)).setCell ⟨w.heap.size, 2, none⟩ (.slice p2 m2 o2)).setCell ⟨w.heap.size, 3, none⟩ (.slice p3 m3 o3)).setCell ⟨w.heap.size, 4, none⟩ (.slice p4 m4 o4)) := ⟨_, rfl⟩
    have oW5 : ∀ k, k ≠ w.heap.size → W5.heap[k]? = wq.heap[k]? := fun k hk => by rw [hW5, hpS hk, hpS hk, hpS hk, hpS hk, hpS hk]
    have P5' : W5.heap[w.heap.size]? = some (.cells #[.slice p0 m0 o0, .slice p1 m1 o1, .slice p2 m2 o2, .slice p3 m3 o3, .slice p4 m4 o4] 28 (0, 0)) := by rw [hW5]; exact (Qah (Qah (Qah (Qah (Qah P0 0 _) 1 _) 2 _) 3 _) 4 _).trans rfl
    have F5 := (oW5 (w.heap.size + 1) (by omega)).trans F0
    have B5 : Below w.heap.size w W5 := by rw [hW5]; exact (((((B0.setCell (p := ⟨w.heap.size, 0, none⟩) (Nat.le_refl _) _).setCell (p := ⟨w.heap.size, 1, none⟩) (Nat.le_refl _) _).setCell (p := ⟨w.heap.size, 2, none⟩) (Nat.le_refl _) _).setCell (p := ⟨w.heap.size, 3, none⟩) (Nat.le_refl _) _).setCell (p := ⟨w.heap.size, 4, none⟩) (Nat.le_refl _) _)
    have sW5 : W5.heap.size = wq.heap.size := by rw [hW5]; simp
    obtain ⟨y0, y1, yf⟩ := cl2 F5
    obtain ⟨W7, hW7⟩ : ∃ W7, W7 = ((W5.setCell ⟨w.heap.size + 1, 0, none⟩ (.int .i64 0)).setCell ⟨w.heap.size + 1, 1, none⟩ (.int .i64 0)) := ⟨_, rfl⟩
    have oW7 : ∀ k, k ≠ w.heap.size + 1 → W7.heap[k]? = W5.heap[k]? := fun k hk => by rw [hW7, hpS hk, hpS hk]
    have F7 : W7.heap[w.heap.size + 1]? = some (.cells #[.int .i64 0, .int .i64 0] 31 (0, 0)) := by rw [hW7]; exact (Qah (Qah F5 0 _) 1 _).trans rfl
    have P7 := (oW7 w.heap.size (by omega)).trans P5'
    have B7 : Below w.heap.size w W7 := by rw [hW7]; exact (B5.setCell (p := ⟨w.heap.size + 1, 0, none⟩) (by show w.heap.size ≤ w.heap.size + 1; omega) _).setCell (p := ⟨w.heap.size + 1, 1, none⟩) (by show w.heap.size ≤ w.heap.size + 1; omega) _
    have sW7 : W7.heap.size = W5.heap.size := by rw [hW7]; simp
    obtain ⟨x0, x1, x2, x3, x4, xf⟩ := cl5 P0
    have hpg7 : PgS (fun b => w.heap.size ≤ b) W7 [.slice p0 m0 o0, .slice p1 m1 o1, .slice p2 m2 o2, .slice p3 m3 o3, .slice p4 m4 o4] pg := Qar.mono _ _ _ _ _ (Qar.same _ _ W7 _ _ hpg (by omega) (fun b hb _ => (oW7 b (by have := hb.1; omega)).trans (oW5 b (by have := hb.1; omega)))) (fun b _ hb => by have := hb.1; omega)
    have HU := hide (Ya P7 (Ya F7 (Ya B7 hpg7)))
    have HW7 := hide hW7
    clear B0 P0 F0 hrb bp hpb hpg oW5 P5' F5 B5 sW5 hW7 oW7 F7 P7 B7 sW7 hpg7 H11
    subst hW5
    go_wp2_with fail
    rw [← Qa HW7]
    obtain ⟨p9, f9', b09, hpg7⟩ := Qa HU
    obtain ⟨u0, u1, u2, u3, u4, uf⟩ := cl5 p9
    obtain ⟨t0, t1, tf⟩ := cl2 f9'
    clear x0 x1 x2 x3 x4 xf y0 y1 yf HW7 HU v0 v1 v2 v3 v4 vf
    go_wp2_with fail
    refine bodyPost_ret (v := .tuple #[.agg #[.slice p0 m0 o0, .slice p1 m1 o1, .slice p2 m2 o2, .slice p3 m3 o3, .slice p4 m4 o4], .agg #[.int .i64 0, .int .i64 0]]) (by simp [results, Try.results6, go_sem, u0, u1, u2, u3, u4, t0, t1]) rfl ?_
    rw [Qa HPO]
    exact ⟨_, _, _, _, _, _, _, _, _, _, _, _, _, _, _, _, _, pg, rfl, b09, hpg7, (Qa WFX).1, (Qa WFX).2 (Qa HYZ)⟩
   have hwl := Qao (Qa H11).2.2.2.2.1
   rw [decide_eq_false hy] at hwl
   have HZ : Hid (Below w.heap.size w w11 ∧ w11.heap[w.heap.size]? = some pgZ ∧ w11.heap[w.heap.size + 1]? = some ftZ ∧ w.heap.size + 2 ≤ rb ∧ w11.heap[rb]? = some (.cells #[.slice (some ⟨tg, 0, none⟩) tn tc, .int .i64 (a9 : Int), .int .i64 ((0 : Nat) : Int), .int .i64 (i9 : Int), .int .i64 y9, .int .i64 f9] 56 (0, 0))) := by
    obtain ⟨B8, p8, f8, g1, hR, _⟩ := Qa H11
    exact ⟨B8, p8, f8, g1, by have := hR.box; rw [Qa HL] at this; exact this⟩
   clear hy H11
   go_wp2_with fail
   refine hwl.mono ?_
   clear hwl
   rintro en wq ⟨rfl, rfl⟩
   have P0 := (Qa HZ).2.1
   have F0 := (Qa HZ).2.2.1
   have B0 := (Qa HZ).1
   have hrb := (Qa HZ).2.2.2.1
   have n4 := (Qa HZ).2.2.2.2
   obtain ⟨W5, hW5⟩ : ∃ W5, W5 = (((((wq.setCell ⟨w.heap.size, 0, none⟩ (.slice none 0 0)).setCell ⟨w.heap.size, 1, none⟩ (.slice none 0 0)).setCell ⟨w.heap.size, 2, none⟩ (.slice none 0 0)).setCell ⟨w.heap.size, 3, none⟩ (.slice none 0 0)).setCell ⟨w.heap.size, 4, none⟩ (.slice none 0 0)).drew := ⟨_, rfl⟩
   have oW5 : ∀ k, k ≠ w.heap.size → W5.heap[k]? = wq.heap[k]? := fun k hk => by rw [hW5, show ∀ v : World, v.drew.heap = v.heap from fun _ => rfl, hpS hk, hpS hk, hpS hk, hpS hk, hpS hk]
   have P5' : W5.heap[w.heap.size]? = some (.cells #[.slice none 0 0, .slice none 0 0, .slice none 0 0, .slice none 0 0, .slice none 0 0] 28 (0, 0)) := by rw [hW5]; exact (Qah (Qah (Qah (Qah (Qah P0 0 _) 1 _) 2 _) 3 _) 4 _).trans rfl
   have F5 := (oW5 (w.heap.size + 1) (by omega)).trans F0
   have B5 : Below w.heap.size w W5 := by rw [hW5]; exact (((((B0.setCell (p := ⟨w.heap.size, 0, none⟩) (Nat.le_refl _) _).setCell (p := ⟨w.heap.size, 1, none⟩) (Nat.le_refl _) _).setCell (p := ⟨w.heap.size, 2, none⟩) (Nat.le_refl _) _).setCell (p := ⟨w.heap.size, 3, none⟩) (Nat.le_refl _) _).setCell (p := ⟨w.heap.size, 4, none⟩) (Nat.le_refl _) _).drew
   have sW5 : W5.heap.size = wq.heap.size := by rw [hW5]; simp
   obtain ⟨y0, y1, yf⟩ := cl2 F5
   obtain ⟨W7, hW7⟩ : ∃ W7, W7 = ((W5.setCell ⟨w.heap.size + 1, 0, none⟩ (.int .i64 y9)).setCell ⟨w.heap.size + 1, 1, none⟩ (.int .i64 f9)) := ⟨_, rfl⟩
   have oW7 : ∀ k, k ≠ w.heap.size + 1 → W7.heap[k]? = W5.heap[k]? := fun k hk => by rw [hW7, hpS hk, hpS hk]
   have F7 : W7.heap[w.heap.size + 1]? = some (.cells #[.int .i64 y9, .int .i64 f9] 31 (0, 0)) := by rw [hW7]; exact (Qah (Qah F5 0 _) 1 _).trans rfl
   have P7 := (oW7 w.heap.size (by omega)).trans P5'
   have B7 : Below w.heap.size w W7 := by rw [hW7]; exact (B5.setCell (p := ⟨w.heap.size + 1, 0, none⟩) (by show w.heap.size ≤ w.heap.size + 1; omega) _).setCell (p := ⟨w.heap.size + 1, 1, none⟩) (by show w.heap.size ≤ w.heap.size + 1; omega) _
   have sW7 : W7.heap.size = W5.heap.size := by rw [hW7]; simp
   obtain ⟨x0, x1, x2, x3, x4, xf⟩ := cl5 P0
   have HN := hide (Ya n4 (Ya ((oW5 rb (by omega)).trans n4) ((oW7 rb (by omega)).trans ((oW5 rb (by omega)).trans n4))))
   have HU := hide (Ya P7 (Ya F7 B7))
   have HW5 := hide hW5
   have HW7 := hide hW7
   clear hW5 oW5 P5' F5 B5 sW5 hW7 oW7 F7 P7 B7 sW7 P0 F0 B0 hrb n4
   go_wp2_with fail
   refine Qam (m := 4) (ml := [(0, 1), (1, 1), (2, 1), (3, 0), (4, 0)]) (fun _ w' => w'.heap[rb]? = some (.cells #[.slice (some ⟨tg, 0, none⟩) tn tc, .int .i64 (a9 : Int), .int .i64 ((0 : Nat) : Int), .int .i64 (i9 : Int), .int .i64 y9, .int .i64 f9] 56 (0, 0))) mixedO (by kernel_rfl) rfl (by rfl) (by kernel_rfl) (fun PP hPP => ?_)
   refine Qad rfl (by kernel_rfl) (fun _ _ _ => by go_simp <;> rfl) ?_
   refine Qad rfl (by kernel_rfl) (fun _ _ _ => by go_simp <;> rfl) ?_
   refine Qad rfl (by kernel_rfl) (fun f w' hw => by obtain ⟨u0, u1, u2, u3, u4, u5, uf⟩ := cl6 hw; go_simp <;> rfl) ?_
   refine Qaa rfl (Qa HN).1 (fun K hK => ?_)
   go_simp
   rw [← Qa HW5]
   refine hK _ _ ?_
   clear hK K HW5 x0 x1 x2 x3 x4 xf
   refine Qaa rfl (Qa HN).2.1 (fun K hK => ?_)
   go_simp
   rw [← Qa HW7]
   refine hK _ _ ?_
   clear hK K HW7 y0 y1 yf
   refine Qap (Qa HN).2.2 (hPP _ _ ?_)
   clear hPP PP
   obtain ⟨p7, f7, b07⟩ := Qa HU
   obtain ⟨u0, u1, u2, u3, u4, uf⟩ := cl5 p7
   obtain ⟨t0, t1, tf⟩ := cl2 f7
   go_wp2_with fail
   refine bodyPost_ret (v := .tuple #[.agg #[.slice none 0 0, .slice none 0 0, .slice none 0 0, .slice none 0 0, .slice none 0 0], .agg #[.int .i64 y9, .int .i64 f9]]) (by simp [results, Try.results6, go_sem, u0, u1, u2, u3, u4, t0, t1]) rfl ?_
   rw [Qa HPO]
   exact ⟨_, _, _, _, _, _, _, _, _, _, _, _, _, _, _, _, _, .none, rfl, b07, Qjq _ _, Nat.zero_le _, Qff⟩
  have gt : (t.kind != 0) = true := by simpa using kt
  clear kt
  have hfl := Qax (Qa H11).2.2.2.2.1 (why := 10) (by decide)
  go_wp2_with fail
  rename_i hK
  refine hK _ _ ?_
  clear hK
  go_wp2_with fail
  refine hfl.mono ?_
  clear hfl
  rintro en w12 ⟨_, a12, i12, y12, f12, rfl, rfl, ⟨ea, ei, hY12⟩, h12, k12⟩
  rw [ea, ei] at h12
  clear ea ei
  have H12 := hide (show Below w.heap.size w w12 ∧ w12.heap[w.heap.size]? = some pgZ ∧ w12.heap[w.heap.size + 1]? = some ftZ ∧ w.heap.size + 2 ≤ rb ∧ Rr rb tg tc l w12 a9 0 i9 y12 f12 ∧ True by
   obtain ⟨B8, p8, f8, g1, _⟩ := Qa H11
   exact ⟨B8.trans (k12.bel (by omega) B8.size), k12.keep p8 (by omega), k12.keep f8 (by omega), g1, h12, trivial⟩)
  have hyn : ¬ (y12 = 0) := hY12
  clear h12 k12 hY12 H11
  have hwl := Qao (Qa H12).2.2.2.2.1
  rw [decide_eq_false hyn] at hwl
  have HZ : Hid (Below w.heap.size w w12 ∧ w12.heap[w.heap.size]? = some pgZ ∧ w12.heap[w.heap.size + 1]? = some ftZ ∧ w.heap.size + 2 ≤ rb ∧ w12.heap[rb]? = some (.cells #[.slice (some ⟨tg, 0, none⟩) tn tc, .int .i64 (a9 : Int), .int .i64 ((0 : Nat) : Int), .int .i64 (i9 : Int), .int .i64 y12, .int .i64 f12] 56 (0, 0))) := by
   obtain ⟨B8, p8, f8, g1, hR, _⟩ := Qa H12
   exact ⟨B8, p8, f8, g1, by have := hR.box; rw [Qa HL] at this; exact this⟩
  clear hyn H12
  go_wp2_with fail
  refine hwl.mono ?_
  clear hwl
  rintro en wq ⟨rfl, rfl⟩
  have P0 := (Qa HZ).2.1
  have F0 := (Qa HZ).2.2.1
  have B0 := (Qa HZ).1
  have hrb := (Qa HZ).2.2.2.1
  have n4 := (Qa HZ).2.2.2.2
  obtain ⟨W5, hW5⟩ : ∃ W5, W5 = (((((wq.setCell ⟨w.heap.size, 0, none⟩ (.slice none 0 0)).setCell ⟨w.heap.size, 1, none⟩ (.slice none 0 0)).setCell ⟨w.heap.size, 2, none⟩ (.slice none 0 0)).setCell ⟨w.heap.size, 3, none⟩ (.slice none 0 0)).setCell ⟨w.heap.size, 4, none⟩ (.slice none 0 0)).drew := ⟨_, rfl⟩
  have oW5 : ∀ k, k ≠ w.heap.size → W5.heap[k]? = wq.heap[k]? := fun k hk => by rw [hW5, show ∀ v : World, v.drew.heap = v.heap from fun _ => rfl, hpS hk, hpS hk, hpS hk, hpS hk, hpS hk]
  have P5' : W5.heap[w.heap.size]? = some (.cells #[.slice none 0 0, .slice none 0 0, .slice none 0 0, .slice none 0 0, .slice none 0 0] 28 (0, 0)) := by rw [hW5]; exact (Qah (Qah (Qah (Qah (Qah P0 0 _) 1 _) 2 _) 3 _) 4 _).trans rfl
  have F5 := (oW5 (w.heap.size + 1) (by omega)).trans F0
  have B5 : Below w.heap.size w W5 := by rw [hW5]; exact (((((B0.setCell (p := ⟨w.heap.size, 0, none⟩) (Nat.le_refl _) _).setCell (p := ⟨w.heap.size, 1, none⟩) (Nat.le_refl _) _).setCell (p := ⟨w.heap.size, 2, none⟩) (Nat.le_refl _) _).setCell (p := ⟨w.heap.size, 3, none⟩) (Nat.le_refl _) _).setCell (p := ⟨w.heap.size, 4, none⟩) (Nat.le_refl _) _).drew
  have sW5 : W5.heap.size = wq.heap.size := by rw [hW5]; simp
  obtain ⟨y0, y1, yf⟩ := cl2 F5
  obtain ⟨W7, hW7⟩ : ∃ W7, W7 = ((W5.setCell ⟨w.heap.size + 1, 0, none⟩ (.int .i64 y12)).setCell ⟨w.heap.size + 1, 1, none⟩ (.int .i64 f12)) := ⟨_, rfl⟩
  have oW7 : ∀ k, k ≠ w.heap.size + 1 → W7.heap[k]? = W5.heap[k]? := fun k hk => by rw [hW7, hpS hk, hpS hk]
  have F7 : W7.heap[w.heap.size + 1]? = some (.cells #[.int .i64 y12, .int .i64 f12] 31 (0, 0)) := by rw [hW7]; exact (Qah (Qah F5 0 _) 1 _).trans rfl
  have P7 := (oW7 w.heap.size (by omega)).trans P5'
  have B7 : Below w.heap.size w W7 := by rw [hW7]; exact (B5.setCell (p := ⟨w.heap.size + 1, 0, none⟩) (by show w.heap.size ≤ w.heap.size + 1; omega) _).setCell (p := ⟨w.heap.size + 1, 1, none⟩) (by show w.heap.size ≤ w.heap.size + 1; omega) _
  have sW7 : W7.heap.size = W5.heap.size := by rw [hW7]; simp
  obtain ⟨x0, x1, x2, x3, x4, xf⟩ := cl5 P0
  have HN := hide (Ya n4 (Ya ((oW5 rb (by omega)).trans n4) ((oW7 rb (by omega)).trans ((oW5 rb (by omega)).trans n4))))
  have HU := hide (Ya P7 (Ya F7 B7))
  have HW5 := hide hW5
  have HW7 := hide hW7
  clear hW5 oW5 P5' F5 B5 sW5 hW7 oW7 F7 P7 B7 sW7 P0 F0 B0 hrb n4
  go_wp2_with fail
  refine Qam (m := 4) (ml := [(0, 1), (1, 1), (2, 1), (3, 0), (4, 0)]) (fun _ w' => w'.heap[rb]? = some (.cells #[.slice (some ⟨tg, 0, none⟩) tn tc, .int .i64 (a9 : Int), .int .i64 ((0 : Nat) : Int), .int .i64 (i9 : Int), .int .i64 y12, .int .i64 f12] 56 (0, 0))) mixedO (by kernel_rfl) rfl (by rfl) (by kernel_rfl) (fun PP hPP => ?_)
  refine Qad rfl (by kernel_rfl) (fun _ _ _ => by go_simp <;> rfl) ?_
  refine Qad rfl (by kernel_rfl) (fun _ _ _ => by go_simp <;> rfl) ?_
  refine Qad rfl (by kernel_rfl) (fun f w' hw => by obtain ⟨u0, u1, u2, u3, u4, u5, uf⟩ := cl6 hw; go_simp <;> rfl) ?_
  refine Qaa rfl (Qa HN).1 (fun K hK => ?_)
  go_simp
  rw [← Qa HW5]
  refine hK _ _ ?_
  clear hK K HW5 x0 x1 x2 x3 x4 xf
  refine Qaa rfl (Qa HN).2.1 (fun K hK => ?_)
  go_simp
  rw [← Qa HW7]
  refine hK _ _ ?_
  clear hK K HW7 y0 y1 yf
  refine Qap (Qa HN).2.2 (hPP _ _ ?_)
  clear hPP PP
  obtain ⟨p7, f7, b07⟩ := Qa HU
  obtain ⟨u0, u1, u2, u3, u4, uf⟩ := cl5 p7
  obtain ⟨t0, t1, tf⟩ := cl2 f7
  go_wp2_with fail
  refine bodyPost_ret (v := .tuple #[.agg #[.slice none 0 0, .slice none 0 0, .slice none 0 0, .slice none 0 0, .slice none 0 0], .agg #[.int .i64 y12, .int .i64 f12]]) (by simp [results, Try.results6, go_sem, u0, u1, u2, u3, u4, t0, t1]) rfl ?_
  rw [Qa HPO]
  exact ⟨_, _, _, _, _, _, _, _, _, _, _, _, _, _, _, _, _, .none, rfl, b07, Qjq _ _, Nat.zero_le _, Qff⟩
end
end Go.Proofs.Ytfmbpaoapjmdnaa
