/- Walks of unlike and of the document's Least. The walk of the document's Least. The walk of ChainLeast. Walks of Wrong and of ChainServes. -/
import Derived.Test.YthcljhfankooaabGreatMCt
import Derived.Test.YthcljhfankooaabGreatMCe
import Derived.Laws.OwnMore
namespace Go.Proofs.YthcljhfankooaabGreat.C
open Go.RowKit Go.Shelf Go.Maps

/-- The searches but nought, each once. -/
def unL : List Int → List Int → List Int
  | out, [] => out
  | out, x :: r => unL (if x ≠ 0 ∧ x ∉ out then out ++ [x] else out) r
theorem unL_snoc (out l : List Int) (x : Int) : unL out (l ++ [x]) = if x ≠ 0 ∧ x ∉ unL out l then unL out l ++ [x] else unL out l := by
  induction l generalizing out with
  | nil => rfl
  | cons a r ih => exact ih _
theorem unL_mem (l : List Int) : (unL [] l).Nodup ∧ (∀ x, x ∈ unL [] l ↔ x ≠ 0 ∧ x ∈ l) ∧ (unL [] l).length ≤ l.length := by
  have : ∀ (n : Nat) (l : List Int), l.length = n → (unL [] l).Nodup ∧ (∀ x, x ∈ unL [] l ↔ x ≠ 0 ∧ x ∈ l) ∧ (unL [] l).length ≤ l.length := by
    intro n
    induction n with
    | zero =>
      intro l hl
      have : l = [] := List.eq_nil_of_length_eq_zero hl
      subst this
      exact ⟨List.nodup_nil, fun x => by simp [unL], Nat.le_refl _⟩
    | succ n ih =>
      intro l hl
      rcases List.eq_nil_or_concat l with e | ⟨m, x, e⟩
      · subst e; simp at hl
      · rw [List.concat_eq_append] at e
        subst e
        obtain ⟨h1, h2, h3⟩ := ih m (by simpa using hl)
        rw [unL_snoc]
        by_cases hx : x ≠ 0 ∧ x ∉ unL [] m
        · rw [if_pos hx]
          refine ⟨?_, fun y => ?_, by simp; omega⟩
          · rw [List.nodup_append]
            refine ⟨h1, by simp, fun a ha b hb e => ?_⟩
            obtain rfl : b = x := by simpa using hb
            exact hx.2 (e ▸ ha)
          · rw [List.mem_append, List.mem_append, List.mem_singleton, h2]
            constructor
            · rintro (⟨a, b⟩ | e)
              · exact ⟨a, .inl b⟩
              · exact ⟨e ▸ hx.1, .inr e⟩
            · rintro ⟨a, b | b⟩
              · exact .inl ⟨a, b⟩
              · exact .inr b
        · rw [if_neg hx]
          refine ⟨h1, fun y => ?_, by simp; omega⟩
          rw [List.mem_append, List.mem_singleton, h2]
          constructor
          · rintro ⟨a, b⟩
            exact ⟨a, .inl b⟩
          · rintro ⟨a, b | b⟩
            · exact ⟨a, b⟩
            · refine (h2 y).1 (Classical.byContradiction fun g => hx ⟨b ▸ a, b ▸ g⟩)
  exact this l.length l rfl
theorem take_snoc {l : List Int} {k : Nat} (hk : k < l.length) : l.take (k + 1) = l.take k ++ [l[k]] := List.take_succ_eq_append_getElem hk
def UnR (l : List Int) (B : Nat) (w : World) (ov i : Value) (wr : World) : Prop := ∃ k : Nat, k ≤ l.length ∧ i = .int .i64 (k : Int) ∧ OwnI B wr ov (unL [] (l.take k)) ∧ Below B w wr

set_option maxRecDepth 100000 in
set_option maxHeartbeats 4000000 in
theorem unlike_any (w : World) (v : Value) (l : List Int) (h : Ints w.heap.size w v l) (hn : l.length ≤ 256) :
    Calls Tryz.prog 65 #[v] w fun e w' => ∃ r, e = .returned r ∧ OwnI w.heap.size w' r (unL [] l) ∧ Below w.heap.size w w' := by
  have HI := hide h
  obtain ⟨a, cap, rfl, hc1, hc2, _⟩ := h
  have HS : Hid (UnR l w.heap.size w (.slice none 0 0) (.int .i64 0) w) := ⟨0, Nat.zero_le _, rfl, OwnI.nil _ _, Below.refl _ _⟩
  go_enter Tryz.func65, Tryz.ntmps65
  go_wp2_with fail
  go_loopw [3, 4] (fun ov i wr => UnR l w.heap.size w ov i wr) (fun _ i _ => l.length - (intOf i).toNat)
  case atStart => exact unhide HS
  case round =>
    obtain ⟨k, hk, rfl, hown, hbl⟩ := hrel
    obtain ⟨va, vn, vc, eo⟩ : ∃ va vn vc, u3 = .slice va vn vc := by
      rcases hown.2 with ⟨e, _⟩ | ⟨g, cap, cur, e, _⟩
      · exact ⟨_, _, _, e⟩
      · exact ⟨_, _, _, e⟩
    by_cases hkl : k < l.length
    · obtain ⟨b, off, rfl, hc⟩ := ((unhide HI).below hbl (Nat.le_refl _)).nat hkl
      obtain ⟨x, hx⟩ : ∃ x, x = l[k] := ⟨_, rfl⟩
      rw [← hx] at hc
      have hsn := unL_snoc [] (l.take k) x
      rw [hx, ← take_snoc hkl, ← hx] at hsn
      have hul := (unL_mem (l.take k)).2.2
      rw [List.length_take] at hul
      have hbs := hbl.size
      by_cases hx0 : x = 0
      · have HN : Hid (UnR l w.heap.size w u3 (.int .i64 ((k + 1 : Nat) : Int)) wr) := ⟨k + 1, by omega, rfl, by rw [hsn, if_neg (fun g => g.1 hx0)]; exact hown, hbl⟩
        rw [hx0] at hc
        subst eo
        clear hown hbl hsn hx hx0
        go_wp2_with fail
        go_roundw
        case rel =>
          have := unhide HN
          rw [Int.natCast_add] at this
          exact this
        case measure => simp [intOf]; omega
      · have hx1 : (x != 0) = true := by simpa using hx0
        have hha := has_any wr.heap.size wr u3 (unL [] (l.take k)) hown.intsS.ints x
        cases hhb : hasB (unL [] (l.take k)) x with
        | true =>
          have hm : x ∈ unL [] (l.take k) := of_decide_eq_true hhb
          rw [hhb] at hha
          have HN : Hid (UnR l w.heap.size w u3 (.int .i64 ((k + 1 : Nat) : Int)) wr) := ⟨k + 1, by omega, rfl, by rw [hsn, if_neg (fun g => g.2 hm)]; exact hown, hbl⟩
          subst eo
          clear hown hbl hsn hx hx0 hm hhb
          go_wp2_with fail
          refine hha.mono ?_
          clear hha
          rintro e w5 ⟨rfl, hw5⟩
          subst hw5
          go_wp2_with fail
          go_roundw
          case rel =>
            have := unhide HN
            rw [Int.natCast_add] at this
            exact this
          case measure => simp [intOf]; omega
        | false =>
          have hm : x ∉ unL [] (l.take k) := of_decide_eq_false hhb
          rw [hhb] at hha
          obtain ⟨r7, w7, hrun7, hown7, hK7, hr7⟩ := app1_run wr u3 _ x hown hbs (by omega)
          have b7 : Below w.heap.size w w7 := hbl.trans (hK7.below hbs (fun b e => (hown.block b e).1))
          have HN : Hid (UnR l w.heap.size w r7 (.int .i64 ((k + 1 : Nat) : Int)) w7) := ⟨k + 1, by omega, rfl, by rw [hsn, if_pos ⟨hx0, hm⟩]; exact hown7, b7⟩
          have HRUN7 := hide hrun7
          subst eo
          clear hown hbl hsn hx hx0 hm hhb hrun7 hown7 hK7 hr7 b7
          go_wp2_with fail
          refine hha.mono ?_
          clear hha
          rintro e w5 ⟨rfl, hw5⟩
          subst hw5
          go_wp2_with (at_builtin; refine wpList_append_run _ rfl _ _ 32 rfl _ _ rfl rfl _ _ (unhide HRUN7) ?_)
          go_roundw
          case rel =>
            have := unhide HN
            rw [Int.natCast_add] at this
            exact this
          case measure => simp [intOf]; omega
    · have hk2 : k = l.length := by omega
      rw [hk2, List.take_length] at hown
      have HE := hide (And.intro hown hbl)
      subst eo
      clear hown hbl hk2
      go_wp2_with fail
      go_ret
      exact ⟨_, rfl, (unhide HE).1, (unhide HE).2⟩
end Go.Proofs.YthcljhfankooaabGreat.C

namespace Go.Proofs.YthcljhfankooaabGreat.C
open Go.RowKit Go.Shelf Go.Maps

theorem infoB : ∃ i, Tryz.prog.info? 4 = some i ∧ i.zero = some (.bool false) ∧ i.size = 1 ∧ i.bytes = 1 := by
  have h : (Tryz.prog.info? 4).map (fun i => (i.zero, i.size, i.bytes)) = some (some (.bool false), 1, 1) := by kernel_rfl
  cases e : Tryz.prog.info? 4 with
  | none => rw [e] at h; cases h
  | some i => rw [e] at h; simp at h; exact ⟨i, rfl, h.1, h.2.1, h.2.2⟩
theorem made_at (z : Value) (n j : Nat) (hj : j < n) : (madeCells #[z] n)[j]? = some z := by
  rw [← Array.getElem?_toList, toList_madeCells_one, List.getElem?_replicate, if_pos hj]
theorem mkI (w : World) (n : Nat) (hn : n ≤ 300) : ∃ w1, (Instr.makeSlice 32 (.int .i64 (n : Int)) (.int .i64 (n : Int))).run Tryz.prog w = .ok (.slice (some ⟨w.heap.size, 0, none⟩) n n) w1 ∧ Arr w1 w.heap.size n (fun _ => 0) ∧ Below w.heap.size w w1 ∧ w1.heap.size = w.heap.size + 1 := by
  obtain ⟨i0, hi0, hz0, hz1, hz2⟩ := infoI
  have ht : Tryz.prog.underlying 32 = some (.slice 3) := by kernel_rfl
  have := run_makeSlice (P := Tryz.prog) w 32 3 i0 (.int .i64 0) ht hi0 hz0 .i64 .i64 (n : Int) (n : Int) (by omega) (Int.le_refl _) (by rw [hz1]; omega) (by rw [hz2]; omega) (by omega)
  rw [Int.toNat_natCast, hz1, Nat.mul_one] at this
  exact ⟨_, this, ⟨_, World.alloc_heap_new _ _, fun j hj => made_at _ n j hj⟩, (Below.refl _ w).alloc (Nat.le_refl _) _, by simp⟩
theorem mkB (w : World) (n : Nat) (hn : n ≤ 300) : ∃ w1, (Instr.makeSlice 126 (.int .i64 (n : Int)) (.int .i64 (n : Int))).run Tryz.prog w = .ok (.slice (some ⟨w.heap.size, 0, none⟩) n n) w1 ∧ ArrB w1 w.heap.size n (fun _ => false) ∧ Below w.heap.size w w1 ∧ w1.heap.size = w.heap.size + 1 := by
  obtain ⟨i0, hi0, hz0, hz1, hz2⟩ := infoB
  have ht : Tryz.prog.underlying 126 = some (.slice 4) := by kernel_rfl
  have := run_makeSlice (P := Tryz.prog) w 126 4 i0 (.bool false) ht hi0 hz0 .i64 .i64 (n : Int) (n : Int) (by omega) (Int.le_refl _) (by rw [hz1]; omega) (by rw [hz2]; omega) (by omega)
  rw [Int.toNat_natCast, hz1, Nat.mul_one] at this
  exact ⟨_, this, ⟨_, World.alloc_heap_new _ _, fun j hj => made_at _ n j hj⟩, (Below.refl _ w).alloc (Nat.le_refl _) _, by simp⟩

/-- The pairs are laid. -/
def NegR (N pb : Nat) (w5 : World) (i : Value) (wr : World) : Prop := ∃ k : Nat, k ≤ N ∧ i = .int .i64 (k : Int) ∧ Arr wr pb N (fun j => if j < k then -1 else 0) ∧ Keeps (fun x => x = pb) w5 wr
/-- While they are tried. -/
def LeR (N : Nat) (f : Nat → Int) (uv : Value) (pb mb : Nat) (w5 : World) (nv i : Value) (wr : World) : Prop := ∃ (k n : Nat) (pair : Nat → Int) (sv : Value), k ≤ N ∧ i = .int .i64 (k : Int) ∧ nv = .int .i64 (n : Int) ∧ (∃ a c m, sv = .slice a c m) ∧ Arr wr pb N pair ∧ RDone N (In f) pair k n ∧ wr.heap[mb]? = some (.cells #[uv, .slice (some ⟨pb, 0, none⟩) N N, sv] 128 (0, 0)) ∧ Keeps (fun x => x = pb ∨ x = mb) w5 wr
theorem RDone.answer {l : List Int} {N : Nat} {f pair : Nat → Int} {n m : Nat} (h : RDone N (In f) pair N n) (hf : ∀ i j, i < N → j < N → f i = f j → i = j) (hu : vals N f = unL [] l) (hm : IsLeast l m) : (m : Int) = max (n : Int) 1 := by
  obtain ⟨hp, ⟨A, B, hD, hA⟩, _, hn⟩ := h
  obtain ⟨ps, h1, h2⟩ := hp.top hf hD (fun i hi => hA i hi hi)
  obtain ⟨W, w1, w0, w2⟩ := hm
  obtain ⟨u1, u2, _⟩ := unL_mem l
  have hnd := vals_nodup hf
  have := (w2.nought (U := vals N f) hnd h1 w0 (fun h0 => by rw [hu] at h0; exact ((u2 0).1 h0).1 rfl) (fun x => by
    rw [w1, hu, u2]
    constructor
    · rintro (e | e)
      · exact .inl e
      · by_cases e0 : x = 0
        · exact .inl e0
        · exact .inr ⟨e0, e⟩
    · rintro (e | ⟨_, e⟩)
      · exact .inl e
      · exact .inr e)).1
  rw [vals_length, h2] at this
  omega
theorem lookE_eight (x : Int) : okB 8 x = !(decide (x < 0) || (x / 256 != 0)) := by
  have : ((2 : Int) ^ 8) = 256 := by decide
  unfold okB
  rw [this]
  by_cases h : x < 0
  · have h2 : (x / 256 != 0) = true := by simp; omega
    rw [h2]; simp
  · simp [h]
def LrR (l : List Int) (i : Value) : Prop := ∃ k : Nat, k ≤ l.length ∧ i = .int .i64 (k : Int) ∧ (l.take k).all (okB 8) = true

set_option maxRecDepth 100000 in
set_option maxHeartbeats 8000000 in
theorem rleast_any (w : World) (v : Value) (l : List Int) (h : Ints w.heap.size w v l) :
    Calls Tryz.prog 45 #[v] w fun e w' => ∃ n : Int, e = .returned (.tuple #[.int .i64 n, .int .i64 (lookE 8 l)]) ∧ (lookE 8 l = 0 → ∀ m, IsLeast l m → (m : Int) = n) ∧ (lookE 8 l ≠ 0 → n = 0) ∧ Below w.heap.size w w' := by
  have HI := hide h
  obtain ⟨a, cap, rfl, hc1, hc2, _⟩ := h
  by_cases hm : l.length ≤ 256
  · have hm1 : ¬ ((256 : Int) < (l.length : Int)) := by omega
    have hul := unlike_any w _ l (unhide HI) hm
    go_enter Tryz.func45, Tryz.ntmps45
    go_wp2_with fail
    go_loop [4] (fun i => LrR l i) (fun i => l.length - (intOf i).toNat)
    case atStart => exact ⟨0, Nat.zero_le _, rfl, rfl⟩
    case round =>
      obtain ⟨k, hk, rfl, hall⟩ := hrel
      have HA := hide hall
      clear hall
      by_cases hlt : k < l.length
      · obtain ⟨b, off, rfl, hc⟩ := (unhide HI).nat hlt
        obtain ⟨x, hx⟩ : ∃ x, x = l[k] := ⟨_, rfl⟩
        rw [← hx] at hc
        have HX := hide hx
        clear hx
        have hok := lookE_eight x
        by_cases hx0 : x < 0
        · have HB := hide (look_bad hm hlt (by rw [← unhide HX, hok, decide_eq_true hx0]; rfl))
          clear hok hul
          go_wp2_with fail
          go_ret2
          exact ⟨0, tup2 rfl (unhide HB).symm, fun g => (by rw [unhide HB] at g; cases g), fun _ => rfl, Below.refl _ _⟩
        · rw [decide_eq_false hx0, Bool.false_or] at hok
          cases hz : (x / 256 != 0) with
          | true =>
            have HB := hide (look_bad hm hlt (by rw [← unhide HX, hok, hz]; rfl))
            clear hok hul
            go_wp2_with fail
            go_ret2
            exact ⟨0, tup2 rfl (unhide HB).symm, fun g => (by rw [unhide HB] at g; cases g), fun _ => rfl, Below.refl _ _⟩
          | false =>
            rw [hz] at hok
            have HB : Hid ((l.take (k + 1)).all (okB 8) = true) := by
              show _ = _
              rw [List.take_succ_eq_append_getElem hlt, List.all_append, unhide HA, ← unhide HX]
              simp only [List.all_cons, List.all_nil, Bool.and_true, Bool.true_and]
              exact hok
            clear hok hul
            go_wp2_with fail
            go_round
            case rel => exact ⟨k + 1, by omega, by go_num, unhide HB⟩
            case measure => simp [intOf]; omega
      · have hk2 : k = l.length := by omega
        have hlk : lookE 8 l = 0 := look_ok hm (by have := unhide HA; rw [hk2, List.take_length] at this; exact this)
        have hnk : ¬ ((k : Int) < (l.length : Int)) := by omega
        have HL := hide hlk
        clear hk2 hlk
        go_wp2_with fail
        refine hul.mono ?_
        clear hul
        rintro e w1 ⟨r, rfl, hown, b1⟩
        obtain ⟨N, hN⟩ : ∃ N, N = (unL [] l).length := ⟨_, rfl⟩
        obtain ⟨u1, u2, u3⟩ := unL_mem l
        have hN2 : N ≤ 256 := by omega
        obtain ⟨f, hf⟩ : ∃ f : Nat → Int, f = fun j => (unL [] l).getD j 0 := ⟨_, rfl⟩
        have hfu : vals N f = unL [] l := by
          rw [hN, hf]
          unfold vals
          apply List.ext_getElem
          · simp
          · intro i h1 h2
            simp [List.getD, List.getElem?_eq_getElem h2]
        have hfi : ∀ i j, i < N → j < N → f i = f j → i = j := fun i j hi hj e => by
          rw [hN] at hi hj
          have e1 : (unL [] l)[i] = (unL [] l)[j] := by
            rw [hf] at e
            simpa [List.getD, List.getElem?_eq_getElem hi, List.getElem?_eq_getElem hj] using e
          exact (List.getElem_inj u1).1 e1
        have hfs : Small N f := fun j hj => by
          have : f j ∈ unL [] l := by rw [← hfu]; exact mem_vals.2 ⟨j, hj, rfl⟩
          exact (look_zero (unhide HL) (Nat.le_refl _)).2.2 _ ((u2 _).1 this).2
        obtain ⟨ra, rc, er⟩ : ∃ a c, r = .slice a N c := by
          obtain ⟨a, c, e, _⟩ := hown.intsS
          exact ⟨a, c, by rw [hN]; exact e⟩
        obtain ⟨w2, hmk, hpr, b2, hs2⟩ := mkI w1 N (by omega)
        obtain ⟨b3, hnw, hs3⟩ := box3 w2 r (.slice (some ⟨w1.heap.size, 0, none⟩) N N) (.slice none 0 0) 128
        obtain ⟨w3, hw3⟩ : ∃ w3, w3 = w2.alloc (.cells #[r, .slice (some ⟨w1.heap.size, 0, none⟩) N N, .slice none 0 0] 128) := ⟨_, rfl⟩
        rw [← hw3] at b3 hnw hs3
        have hs1 := b1.size
        have hlA : 0 < N → ∃ lb, ra = some ⟨lb, 0, none⟩ ∧ lb < w1.heap.size ∧ Arr w3 lb N f := fun h0 => by
          rcases hown.2 with ⟨e, _⟩ | ⟨g, cap, cur, e, _, h3, _, _, h6, h7⟩
          · rw [er] at e
            simp only [Value.slice.injEq] at e
            omega
          · rw [er] at e
            simp only [Value.slice.injEq] at e
            refine ⟨g, e.1, lt_heap h3, ?_⟩
            have hA1 : Arr w1 g N f := ⟨cur, h3, fun j hj => by
              have h8 : (cur.toList.take ((unL [] l).length * 1))[j]? = ((unL [] l).map (Value.int .i64))[j]? := by rw [h7]
              rw [List.getElem?_take_of_lt (by omega), Array.getElem?_toList] at h8
              rw [h8, List.getElem?_map, List.getElem?_eq_getElem (show j < (unL [] l).length by omega), hf]
              simp [List.getD, List.getElem?_eq_getElem (show j < (unL [] l).length by omega)]⟩
            exact (hA1.later b2).later b3
        subst er
        have HE := hide (And.intro b1 (And.intro b2 (And.intro b3 (And.intro hnw (And.intro hlA (And.intro hfu (And.intro hfi hfs)))))))
        have HP : Hid (NegR N w1.heap.size w3 (.int .i64 0) w3) := ⟨0, Nat.zero_le _, rfl, (hpr.later b3).congr (fun j _ => (if_neg (by omega)).symm), Keeps.refl _ _⟩
        obtain ⟨pb, hpb⟩ : ∃ pb, pb = w1.heap.size := ⟨_, rfl⟩
        obtain ⟨mb, hmb⟩ : ∃ mb, mb = w2.heap.size := ⟨_, rfl⟩
        rw [← hpb] at hmk hs2 HE HP hs1 hw3
        rw [← hmb] at hs2 hs3 HE
        have HPB := hide (And.intro hpb hmb)
        have hpm : pb < mb := by omega
        have hm3 : mb < w3.heap.size := by omega
        have HS23 := hide (And.intro hs2 hs3)
        clear hown b1 u1 u2 u3 hfu hfi hfs hpr b2 b3 hnw hlA hN hf hpb hs2 hs3
        go_wp2_with fail
        rw [← hw3, ← hmb]
        clear hw3 hmb
        go_loopw [7] (fun i wr => NegR N pb w3 i wr) (fun i _ => N - (intOf i).toNat)
        case atStart => exact unhide HP
        case round =>
          obtain ⟨q, hq, rfl, hpa, hK⟩ := hrel
          obtain ⟨b1, b2, b3, hnw, hlA, hfu, hfi, hfs⟩ := unhide HE
          have hnwr := hK.same _ _ hnw (fun e => by omega)
          obtain ⟨c0, c1, c2, _⟩ := three_cells hnwr
          by_cases hqN : q < N
          · obtain ⟨x0, x1⟩ := hpa.cell hqN
            rw [if_neg (by omega)] at x0
            have HN : Hid (NegR N pb w3 (.int .i64 ((q + 1 : Nat) : Int)) (wr.setCell ⟨pb, q, none⟩ (.int .i64 (-1)))) := ⟨q + 1, by omega, rfl, (hpa.set (-1) hqN).congr (fun j hj => by
              by_cases e : j = q
              · rw [e, upd_self, if_pos (by omega)]
              · rw [upd_ne _ _ e]
                by_cases g : j < q
                · rw [if_pos g, if_pos (by omega)]
                · rw [if_neg g, if_neg (by omega)]), hK.setCell ⟨pb, q, none⟩ rfl _⟩
            clear hpa hK b1 b2 b3 hnw hlA hfu hfi hfs hnwr
            go_wp2_with fail
            go_roundw
            case rel =>
              have := unhide HN
              rw [Int.natCast_add] at this
              exact this
            case measure => simp [intOf]; omega
          · have hnq : ¬ ((q : Int) < (N : Int)) := by omega
            have hqN2 : q = N := by omega
            have HSt : Hid (LeR N f (.slice ra N rc) pb mb w3 (.int .i64 (N : Int)) (.int .i64 0) wr) := ⟨0, N, fun _ => -1, .slice none 0 0, Nat.zero_le _, rfl, rfl, ⟨_, _, _, rfl⟩, hpa.congr (fun j hj => if_pos (by omega)), RDone.start N (In f), hnwr, hK.mono (fun _ e => .inl e)⟩
            clear hpa hK b1 b2 b3 hnw hlA hfu hfi hfs hnwr hqN2 c0 c1 c2
            go_wp2_with fail
            go_loopw [8, 9] (fun nv i wr => LeR N f (.slice ra N rc) pb mb w3 nv i wr) (fun _ i _ => N - (intOf i).toNat)
            case atStart => exact unhide HSt
            case round =>
              obtain ⟨j, n, pair, sv, hj, rfl, rfl, ⟨sa, sn, sc, rfl⟩, hpa, hdn, hmx, hK⟩ := hrel
              obtain ⟨b1, b2, b3, hnw, hlA, hfu, hfi, hfs⟩ := unhide HE
              obtain ⟨c0, c1, c2, d0, d1, d2⟩ := three_cells hmx
              by_cases hjN : j < N
              · obtain ⟨lb, rfl, hlb, hlarr⟩ := hlA (by omega)
                obtain ⟨w5, hmk5, hsB, b5, hs5⟩ := mkB wr N (by omega)
                have hws := hK.size
                have hmx5 := (b5.block _ (lt_heap hmx)).trans hmx
                have hmbl := lt_heap hmx
                have hpbl := hpa.lt
                obtain ⟨w6, hw6⟩ : ∃ w6, w6 = w5.setCell ⟨mb, 2, none⟩ (.slice (some ⟨wr.heap.size, 0, none⟩) N N) := ⟨_, rfl⟩
                have hmx6 : w6.heap[mb]? = some (.cells #[.slice (some ⟨lb, 0, none⟩) N rc, .slice (some ⟨pb, 0, none⟩) N N, .slice (some ⟨wr.heap.size, 0, none⟩) N N] 128 (0, 0)) := by
                  rw [hw6]
                  exact set_heap hmx5 2 _
                have hK6 : Keeps (fun x => x = mb) w5 w6 := by rw [hw6]; exact (Keeps.refl (fun x => x = mb) w5).setCell ⟨mb, 2, none⟩ rfl _
                have hl6 := ((hlarr.keeps hK (fun e => by omega)).later b5).keeps hK6 (fun e => by omega)
                have hp6 := (hpa.later b5).keeps hK6 (fun e => by omega)
                have hs6 := hsB.keeps hK6 (fun e => by omega)
                have htr := try_any _ w6 mb lb rc pb N wr.heap.size N N f pair (fun _ => false) j rfl hmx6 hl6 hfs hp6 hs6 (by omega) (by omega) (hdn.pre hjN)
                have hK36 : Keeps (fun x => x = pb ∨ x = mb) w3 w6 := (hK.trans (Keeps.of_below (O := fun x => x = pb ∨ x = mb) b5) (fun _ _ e => e)).trans hK6 (fun _ _ e => .inr e)
                obtain ⟨e0, e1, e2, g0, g1, g2⟩ := three_cells hmx5
                have hhad : 1 ≤ n ∨ n = 0 := by omega
                have HF := hide (And.intro hdn (And.intro hmx6 hK36))
                have hn300 : n ≤ 300 := by have := hdn.2.2.2; omega
                clear hpa hdn hmx hK b1 b2 b3 hnw hlA hfu hfi hfs hlarr hsB b5 hmx5 hmx6 hK6 hl6 hp6 hs6 hK36 hhad
                subst hw6
                go_wp2_with fail
                refine htr.mono ?_
                clear htr
                rintro e w7 ⟨hK7, ⟨rfl, pair1, seen1, hp7, hs7, hy⟩ | ⟨rfl, seen1, hp7, hs7, hno⟩⟩
                · obtain ⟨hdn, hmx6, hK36⟩ := unhide HF
                  obtain ⟨hn1, hdn'⟩ := hdn.yes hy
                  have hmx7 := hK7.same _ _ hmx6 (fun e => by omega)
                  have HN : Hid (LeR N f (.slice (some ⟨lb, 0, none⟩) N rc) pb mb w3 (.int .i64 ((n - 1 : Nat) : Int)) (.int .i64 ((j + 1 : Nat) : Int)) w7) := ⟨j + 1, n - 1, pair1, _, by omega, rfl, rfl, ⟨_, _, _, rfl⟩, hp7, hdn', hmx7, hK36.trans hK7 (fun x hx e => by omega)⟩
                  have hsub : ((n : Int) - 1) = ((n - 1 : Nat) : Int) := by omega
                  clear hdn hmx6 hK36 hdn' hmx7 hK7 hp7 hs7 hy e0 e1 e2 g0 g1 g2 c0 c1 c2 d0 d1 d2
                  go_wp2_with fail
                  go_roundw
                  case rel =>
                    have := unhide HN
                    rw [Int.natCast_add] at this
                    first
                    | exact this
                    | (rw [← hsub] at this; exact this)
                  case measure => simp [intOf]; omega
                · obtain ⟨hdn, hmx6, hK36⟩ := unhide HF
                  have hdn' := hdn.no hno
                  have hmx7 := hK7.same _ _ hmx6 (fun e => by omega)
                  have HN : Hid (LeR N f (.slice (some ⟨lb, 0, none⟩) N rc) pb mb w3 (.int .i64 (n : Int)) (.int .i64 ((j + 1 : Nat) : Int)) w7) := ⟨j + 1, n, pair, _, by omega, rfl, rfl, ⟨_, _, _, rfl⟩, hp7, hdn', hmx7, hK36.trans hK7 (fun x hx e => by omega)⟩
                  clear hdn hmx6 hK36 hdn' hmx7 hK7 hp7 hs7 hno e0 e1 e2 g0 g1 g2 c0 c1 c2 d0 d1 d2
                  go_wp2_with fail
                  go_roundw
                  case rel =>
                    have := unhide HN
                    rw [Int.natCast_add] at this
                    exact this
                  case measure => simp [intOf]; omega
              · have hnj : ¬ ((j : Int) < (N : Int)) := by omega
                have hjN2 : j = N := by omega
                rw [hjN2] at hdn
                have HF : Hid ((∀ m, IsLeast l m → (m : Int) = max (n : Int) 1) ∧ Below w.heap.size w wr) := by
                  refine ⟨fun m hm => hdn.answer hfi hfu hm, ?_⟩
                  have hpm := unhide HPB
                  have hs23 := unhide HS23
                  have b12 := b1.trans (b2.mono (by omega))
                  have b13 := b12.trans (b3.mono (by omega))
                  exact b13.trans (hK.below (by omega) (fun x e => by omega))
                clear hpa hdn hmx hK b1 b2 b3 hnw hlA hfu hfi hfs hjN2
                go_wp2_with fail
                go_ret2
                obtain ⟨hF1, hF2⟩ := unhide HF
                exact ⟨max (n : Int) 1, tup2 rfl (unhide HL).symm, fun _ => hF1, fun g => absurd (unhide HL) g, hF2⟩
  · have hm1 : (256 : Int) < (l.length : Int) := by omega
    have HB := hide (look_many (wd := 8) hm)
    go_enter Tryz.func45, Tryz.ntmps45
    go_wp2_with fail
    go_ret2
    exact ⟨0, tup2 rfl (unhide HB).symm, fun g => (by rw [unhide HB] at g; cases g), fun _ => rfl, Below.refl _ _⟩
end Go.Proofs.YthcljhfankooaabGreat.C

namespace Go.Proofs.YthcljhfankooaabGreat.C
open Go.RowKit Go.Shelf Go.Maps

end Go.Proofs.YthcljhfankooaabGreat.C

namespace Go.Proofs.YthcljhfankooaabGreat.C
open Go.RowKit Go.Shelf Go.Maps

theorem okB_mono {wd : Nat} (hw : wd ≤ 8) {x : Int} (h : okB wd x = true) : okB 8 x = true := by
  rw [okB_iff] at h ⊢
  have : 2 ^ wd ≤ 2 ^ 8 := Nat.pow_le_pow_right (by omega) hw
  omega
theorem look_eight {wd : Nat} (hw : wd ≤ 8) (l : List Int) : lookE wd l = if lookE 8 l ≠ 0 then lookE 8 l else if l.all (okB wd) = true then 0 else 1 := by
  unfold lookE
  by_cases h1 : l.length ≤ 256
  · cases h2 : l.all (okB 8) with
    | true => simp only [h1, if_true, ne_eq, not_true_eq_false, if_false]
    | false =>
      have h3 : l.all (okB wd) = false := by
        cases g : l.all (okB wd) with
        | false => rfl
        | true =>
          have : l.all (okB 8) = true := List.all_eq_true.2 fun x hx => okB_mono hw (List.all_eq_true.1 g x hx)
          rw [this] at h2; cases h2
      simp [h1, h3]
  · simp [h1]
theorem wrong_a {wd : Nat} (hw : wd ≤ 8) {l : List Int} (h : lookE 8 l ≠ 0) : ordE (wd : Int) l = lookE 8 l := by rw [ordE_nat hw, look_eight hw, if_pos h]
theorem wrong_b {wd : Nat} (hw : wd ≤ 8) {l : List Int} (h : lookE 8 l = 0) (g : l.all (okB wd) = true) : ordE (wd : Int) l = 0 := by rw [ordE_nat hw, look_eight hw, if_neg (by simp [h]), if_pos g]
theorem wrong_c {wd : Nat} (hw : wd ≤ 8) {l : List Int} (h : lookE 8 l = 0) (g : ¬ l.all (okB wd) = true) : ordE (wd : Int) l = 1 := by rw [ordE_nat hw, look_eight hw, if_neg (by simp [h]), if_neg g]
def WrR (wd : Nat) (l : List Int) (ev i : Value) : Prop := ∃ (k : Nat) (e : Int), k ≤ l.length ∧ i = .int .i64 (k : Int) ∧ ev = .int .i64 e ∧ ((e = 0 ∧ (l.take k).all (okB wd) = true) ∨ (e = 1 ∧ ¬ l.all (okB wd) = true))

set_option maxRecDepth 100000 in
set_option maxHeartbeats 4000000 in
theorem wrong_any (w : World) (width : Int) (v : Value) (l : List Int) (h : Ints w.heap.size w v l) :
    Calls Tryz.prog 23 #[.int .i64 width, v] w fun e w' => e = .returned (.int .i64 (ordE width l)) ∧ Below w.heap.size w w' := by
  by_cases hb : width < 0 ∨ 8 < width
  · have HE : Hid (ordE width l = 1) := if_pos hb
    obtain ⟨va, vc, rfl, _⟩ := id h
    clear h
    by_cases h0 : width < 0
    · go_enter Tryz.func23, Tryz.ntmps23
      go_wp2_with fail
      go_ret
      exact ⟨ret_int (unhide HE).symm, Below.refl _ _⟩
    · have h8 : 8 < width := by omega
      go_enter Tryz.func23, Tryz.ntmps23
      go_wp2_with fail
      go_ret
      exact ⟨ret_int (unhide HE).symm, Below.refl _ _⟩
  · obtain ⟨wd, rfl⟩ : ∃ wd : Nat, width = (wd : Int) := ⟨width.toNat, by omega⟩
    have hw : wd ≤ 8 := by omega
    have HW : Hid ((lookE 8 l ≠ 0 → ordE (wd : Int) l = lookE 8 l) ∧ (lookE 8 l = 0 → (l.all (okB wd) = true → ordE (wd : Int) l = 0) ∧ (¬ l.all (okB wd) = true → ordE (wd : Int) l = 1))) := ⟨wrong_a hw, fun h => ⟨wrong_b hw h, wrong_c hw h⟩⟩
    generalize ordE (wd : Int) l = OE at HW
    have hrl := rleast_any w v l h
    have HI := hide h
    obtain ⟨va, vc, rfl, _⟩ := id h
    have hw0 : ¬ ((wd : Int) < 0) := by omega
    have hw8 : ¬ ((8 : Int) < (wd : Int)) := by omega
    clear h hb
    generalize lookE 8 l = L at hrl HW
    go_enter Tryz.func23, Tryz.ntmps23
    go_wp2_with fail
    refine hrl.mono ?_
    clear hrl
    rintro e w1 ⟨m, rfl, _, _, b1⟩
    have HB := hide b1
    clear b1
    by_cases hL : L = 0
    · subst hL
      have HW2 := hide ((unhide HW).2 rfl)
      clear HW
      go_wp2_with fail
      go_loop [6, 7] (fun ev i => WrR wd l ev i) (fun _ i => l.length - (intOf i).toNat)
      case atStart => exact ⟨0, 0, Nat.zero_le _, rfl, rfl, .inl ⟨rfl, rfl⟩⟩
      case round =>
        obtain ⟨k, e, hk, rfl, rfl, hc⟩ := hrel
        rcases hc with ⟨rfl, hall⟩ | ⟨rfl, hno⟩
        · by_cases hlt : k < l.length
          · obtain ⟨b, off, rfl, hc⟩ := ((unhide HI).below (unhide HB) (Nat.le_refl _)).nat hlt
            obtain ⟨x, hx⟩ : ∃ x, x = l[k] := ⟨_, rfl⟩
            rw [← hx] at hc
            cases hz : (x / 2 ^ wd != 0) with
            | true =>
              have HN : Hid (¬ l.all (okB wd) = true) := fun g => by
                have := List.all_eq_true.1 g l[k] (List.getElem_mem hlt)
                rw [← hx] at this
                unfold okB at this
                rw [hz] at this
                cases this
              clear hall hx
              go_wp2_with fail
              go_round
              case rel => exact ⟨k + 1, 1, by omega, by go_num, rfl, .inr ⟨rfl, unhide HN⟩⟩
              case measure => simp [intOf]; omega
            | false =>
              have HN : Hid ((l.take (k + 1)).all (okB wd) = true) := by
                show _ = _
                rw [List.take_succ_eq_append_getElem hlt, List.all_append, hall, ← hx]
                simp only [List.all_cons, List.all_nil, Bool.and_true, Bool.true_and]
                show (!(x / 2 ^ wd != 0)) = true
                rw [hz]; rfl
              clear hall hx
              go_wp2_with fail
              go_round
              case rel => exact ⟨k + 1, 0, by omega, by go_num, rfl, .inl ⟨rfl, unhide HN⟩⟩
              case measure => simp [intOf]; omega
          · have hk2 : k = l.length := by omega
            rw [hk2, List.take_length] at hall
            have HN : Hid (OE = 0) := (unhide HW2).1 hall
            have hnk : ¬ ((k : Int) < (l.length : Int)) := by omega
            clear hall hk2
            go_wp2_with fail
            go_ret
            exact ⟨ret_int (unhide HN).symm, unhide HB⟩
        · have HN : Hid (OE = 1) := (unhide HW2).2 hno
          clear hno
          by_cases hlt : k < l.length
          · go_wp2_with fail
            go_ret
            exact ⟨ret_int (unhide HN).symm, unhide HB⟩
          · have hnk : ¬ ((k : Int) < (l.length : Int)) := by omega
            go_wp2_with fail
            go_ret
            exact ⟨ret_int (unhide HN).symm, unhide HB⟩
    · have hL1 : (L == 0) = false := by simpa using hL
      have HN : Hid (OE = L) := (unhide HW).1 hL
      clear hL HW
      go_wp2_with fail
      go_loop [6, 7] (fun ev i => ev = .int .i64 L ∧ i = .int .i64 0) (fun _ _ => 0)
      case atStart => exact ⟨rfl, rfl⟩
      case round =>
        obtain ⟨rfl, rfl⟩ := hrel
        by_cases hlt : 0 < l.length
        · have hlt1 : (0 : Int) < (l.length : Int) := by omega
          go_wp2_with fail
          go_ret
          exact ⟨ret_int (unhide HN).symm, unhide HB⟩
        · have hlt1 : ¬ ((0 : Int) < (l.length : Int)) := by omega
          go_wp2_with fail
          go_ret
          exact ⟨ret_int (unhide HN).symm, unhide HB⟩

/-- Orders, in one. -/
theorem orders_any (w : World) (width : Int) (v : Value) (l : List Int) (h : Ints w.heap.size w v l) :
    Calls Tryz.prog 21 #[.int .i64 width, v] w fun e w' => ∃ r os, e = .returned (.tuple #[r, .int .i64 (ordE width l)]) ∧ OL w.heap.size w' r os ∧ (ordE width l ≠ 0 → os = []) ∧ (ordE width l = 0 → IsLeast l os.length ∧ (∀ o ∈ os, right o = true ∧ (o.length : Int) = width) ∧ ∀ x ∈ l, ∃ o ∈ os, coverB o x = true) ∧ Below w.heap.size w w' := by
  by_cases hl : ordE width l = 0
  · have hb : ¬ (width < 0 ∨ 8 < width) := fun g => by
      unfold ordE at hl
      rw [if_pos g] at hl
      cases hl
    obtain ⟨wd, rfl⟩ : ∃ wd : Nat, width = (wd : Int) := ⟨width.toNat, by omega⟩
    have hl2 := hl
    rw [ordE_nat (by omega)] at hl2
    refine (orders_ok w wd v l h (by omega) hl2).mono ?_
    rintro e w' ⟨r, os, rfl, h1, h2, h3, h4, h5⟩
    exact ⟨r, os, by rw [hl], h1, fun g => absurd hl g, fun _ => ⟨h2, fun o ho => ⟨(h3 o ho).1, by rw [(h3 o ho).2]⟩, h4⟩, h5⟩
  · refine (orders_no w width v l h hl).mono ?_
    rintro e w' ⟨rfl, rfl⟩
    exact ⟨_, [], rfl, OL.nil _ _, fun _ => rfl, fun g => absurd g hl, Below.refl _ _⟩
theorem ordE_look {width : Int} {l : List Int} (h : ordE width l = 0) : lookE 8 l = 0 := by
  have hb : ¬ (width < 0 ∨ 8 < width) := fun g => by
    unfold ordE at h
    rw [if_pos g] at h
    cases h
  obtain ⟨wd, rfl⟩ : ∃ wd : Nat, width = (wd : Int) := ⟨width.toNat, by omega⟩
  rw [ordE_nat (by omega), look_eight (by omega)] at h
  by_cases g : lookE 8 l = 0
  · exact g
  · rw [if_pos g] at h
    exact absurd h g
def S1R (n : Nat) (i : Value) : Prop := ∃ k : Nat, k ≤ n ∧ i = .int .i64 (k : Int)
theorem OL.later {base : Nat} {A B : World} {v : Value} {os : List (List Int)} (h : OL base A v os) (hb : Below A.heap.size A B) : OL base B v os := h.keeps (O := fun _ => False) (Keeps.of_below hb) (fun _ _ e => e)
/-- One of the orders. -/
theorem OL.at {base : Nat} {w : World} {a : Option Addr} {n c : Nat} {os : List (List Int)} (h : OL base w (.slice a n c) os) {k : Nat} (hk : k < os.length) : ∃ g u ua uc, a = some ⟨g, 0, none⟩ ∧ w.cell? ⟨g, k, none⟩ = some u ∧ u = .slice ua (os.getD k []).length uc ∧ Ints w.heap.size w u (os.getD k []) ∧ os.getD k [] ∈ os := by
  obtain ⟨vs, h1, h2⟩ := h
  obtain ⟨u, u1, u2, _⟩ := h2 k hk
  have hi := u2.intsS.ints
  obtain ⟨ua, uc, eu, _⟩ := id hi
  have hmem : os.getD k [] ∈ os := by
    rw [List.getD, List.getElem?_eq_getElem hk]
    exact List.getElem_mem _
  rcases h1.2 with ⟨e, e2⟩ | ⟨g, cap, cur, e, _⟩
  · omega
  · simp only [Value.slice.injEq] at e
    obtain ⟨rfl, rfl, rfl⟩ := e
    refine ⟨g, u, ua, uc, rfl, ?_, eu, hi, hmem⟩
    rw [World.ownsRow.cellAt h1 k (by omega)]
    exact u1

end Go.Proofs.YthcljhfankooaabGreat.C
