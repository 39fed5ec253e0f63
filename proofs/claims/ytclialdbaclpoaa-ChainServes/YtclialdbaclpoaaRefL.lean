/- The walk of the document's Least. -/
import Derived.Test.YtclialdbaclpoaaRefs
import Derived.Laws.OwnMore
namespace Go.Proofs.Ytclialdbaclpoaa
open Go.RowKit Go.Shelf Go.Maps

theorem infoB : ∃ i, Try.prog.info? 4 = some i ∧ i.zero = some (.bool false) ∧ i.size = 1 ∧ i.bytes = 1 := by
  have h : (Try.prog.info? 4).map (fun i => (i.zero, i.size, i.bytes)) = some (some (.bool false), 1, 1) := by kernel_rfl
  cases e : Try.prog.info? 4 with
  | none => rw [e] at h; cases h
  | some i => rw [e] at h; simp at h; exact ⟨i, rfl, h.1, h.2.1, h.2.2⟩
theorem made_at (z : Value) (n j : Nat) (hj : j < n) : (madeCells #[z] n)[j]? = some z := by
  rw [← Array.getElem?_toList, toList_madeCells_one, List.getElem?_replicate, if_pos hj]
theorem mkI (w : World) (n : Nat) (hn : n ≤ 300) : ∃ w1, (Instr.makeSlice 22 (.int .i64 (n : Int)) (.int .i64 (n : Int))).run Try.prog w = .ok (.slice (some ⟨w.heap.size, 0, none⟩) n n) w1 ∧ Arr w1 w.heap.size n (fun _ => 0) ∧ Below w.heap.size w w1 ∧ w1.heap.size = w.heap.size + 1 := by
  obtain ⟨i0, hi0, hz0, hz1, hz2⟩ := infoI
  have ht : Try.prog.underlying 22 = some (.slice 3) := by kernel_rfl
  have := run_makeSlice (P := Try.prog) w 22 3 i0 (.int .i64 0) ht hi0 hz0 .i64 .i64 (n : Int) (n : Int) (by omega) (Int.le_refl _) (by rw [hz1]; omega) (by rw [hz2]; omega) (by omega)
  rw [Int.toNat_natCast, hz1, Nat.mul_one] at this
  exact ⟨_, this, ⟨_, World.alloc_heap_new _ _, fun j hj => made_at _ n j hj⟩, (Below.refl _ w).alloc (Nat.le_refl _) _, by simp⟩
theorem mkB (w : World) (n : Nat) (hn : n ≤ 300) : ∃ w1, (Instr.makeSlice 49 (.int .i64 (n : Int)) (.int .i64 (n : Int))).run Try.prog w = .ok (.slice (some ⟨w.heap.size, 0, none⟩) n n) w1 ∧ ArrB w1 w.heap.size n (fun _ => false) ∧ Below w.heap.size w w1 ∧ w1.heap.size = w.heap.size + 1 := by
  obtain ⟨i0, hi0, hz0, hz1, hz2⟩ := infoB
  have ht : Try.prog.underlying 49 = some (.slice 4) := by kernel_rfl
  have := run_makeSlice (P := Try.prog) w 49 4 i0 (.bool false) ht hi0 hz0 .i64 .i64 (n : Int) (n : Int) (by omega) (Int.le_refl _) (by rw [hz1]; omega) (by rw [hz2]; omega) (by omega)
  rw [Int.toNat_natCast, hz1, Nat.mul_one] at this
  exact ⟨_, this, ⟨_, World.alloc_heap_new _ _, fun j hj => made_at _ n j hj⟩, (Below.refl _ w).alloc (Nat.le_refl _) _, by simp⟩

/-- The pairs are laid. -/
def NegR (N pb : Nat) (w5 : World) (i : Value) (wr : World) : Prop := ∃ k : Nat, k ≤ N ∧ i = .int .i64 (k : Int) ∧ Arr wr pb N (fun j => if j < k then -1 else 0) ∧ Keeps (fun x => x = pb) w5 wr
/-- While they are tried. -/
def LeR (N : Nat) (f : Nat → Int) (uv : Value) (pb mb : Nat) (w5 : World) (nv i : Value) (wr : World) : Prop := ∃ (k n : Nat) (pair : Nat → Int) (sv : Value), k ≤ N ∧ i = .int .i64 (k : Int) ∧ nv = .int .i64 (n : Int) ∧ (∃ a c m, sv = .slice a c m) ∧ Arr wr pb N pair ∧ RDone N (In f) pair k n ∧ wr.heap[mb]? = some (.cells #[uv, .slice (some ⟨pb, 0, none⟩) N N, sv] 51 (0, 0)) ∧ Keeps (fun x => x = pb ∨ x = mb) w5 wr
theorem RDone.answer {l : List Int} {N : Nat} {f pair : Nat → Int} {n m : Nat} (h : RDone N (In f) pair N n) (hf : ∀ i j, i < N → j < N → f i = f j → i = j) (hu : vals N f = unL [] l) (hm : IsLeast l m) : (m : Int) = max (n : Int) 1 := by
  obtain ⟨hp, ⟨A, B, hD, hA⟩, _, hn⟩ := h
  obtain ⟨ps, h1, h2⟩ := hp.top hf hD (fun i hi => hA i hi hi)
  obtain ⟨W, w1, w0, w2⟩ := hm
  obtain ⟨u1, u2, _⟩ := unL_mem l
  have hnd := vals_nodup hf
  have := (w2.nought (U := vals N f) hnd h1 w0 (fun h0 => by rw [hu] at h0; exact ((u2 0).1 h0).1 rfl) (fun x => by
    rw [w1, hu, u2]
    constructor
    · rintro (e | e)
      · exact .inl e
      · by_cases e0 : x = 0
        · exact .inl e0
        · exact .inr ⟨e0, e⟩
    · rintro (e | ⟨_, e⟩)
      · exact .inl e
      · exact .inr e)).1
  rw [vals_length, h2] at this
  omega
theorem lookE_eight (x : Int) : okB 8 x = !(decide (x < 0) || (x / 256 != 0)) := by
  have : ((2 : Int) ^ 8) = 256 := by decide
  unfold okB
  rw [this]
  by_cases h : x < 0
  · have h2 : (x / 256 != 0) = true := by simp; omega
    rw [h2]; simp
  · simp [h]
def LrR (l : List Int) (i : Value) : Prop := ∃ k : Nat, k ≤ l.length ∧ i = .int .i64 (k : Int) ∧ (l.take k).all (okB 8) = true

set_option maxRecDepth 100000 in
set_option maxHeartbeats 8000000 in
theorem rleast_any (w : World) (v : Value) (l : List Int) (h : Ints w.heap.size w v l) :
    Calls Try.prog 10 #[v] w fun e w' => ∃ n : Int, e = .returned (.tuple #[.int .i64 n, .int .i64 (lookE 8 l)]) ∧ (lookE 8 l = 0 → ∀ m, IsLeast l m → (m : Int) = n) ∧ (lookE 8 l ≠ 0 → n = 0) ∧ Below w.heap.size w w' := by
  have HI := hide h
  obtain ⟨a, cap, rfl, hc1, hc2, _⟩ := h
  by_cases hm : l.length ≤ 256
  · have hm1 : ¬ ((256 : Int) < (l.length : Int)) := by omega
    have hul := unlike_any w _ l (unhide HI) hm
    go_enter Try.func10, Try.ntmps10
    go_wp2_with fail
    go_loop [4] (fun i => LrR l i) (fun i => l.length - (intOf i).toNat)
    case atStart => exact ⟨0, Nat.zero_le _, rfl, rfl⟩
    case round =>
      obtain ⟨k, hk, rfl, hall⟩ := hrel
      have HA := hide hall
      clear hall
      by_cases hlt : k < l.length
      · obtain ⟨b, off, rfl, hc⟩ := (unhide HI).nat hlt
        obtain ⟨x, hx⟩ : ∃ x, x = l[k] := ⟨_, rfl⟩
        rw [← hx] at hc
        have HX := hide hx
        clear hx
        have hok := lookE_eight x
        by_cases hx0 : x < 0
        · have HB := hide (look_bad hm hlt (by rw [← unhide HX, hok, decide_eq_true hx0]; rfl))
          clear hok hul
          go_wp2_with fail
          go_ret2
          exact ⟨0, tup2 rfl (unhide HB).symm, fun g => (by rw [unhide HB] at g; cases g), fun _ => rfl, Below.refl _ _⟩
        · rw [decide_eq_false hx0, Bool.false_or] at hok
          cases hz : (x / 256 != 0) with
          | true =>
            have HB := hide (look_bad hm hlt (by rw [← unhide HX, hok, hz]; rfl))
            clear hok hul
            go_wp2_with fail
            go_ret2
            exact ⟨0, tup2 rfl (unhide HB).symm, fun g => (by rw [unhide HB] at g; cases g), fun _ => rfl, Below.refl _ _⟩
          | false =>
            rw [hz] at hok
            have HB : Hid ((l.take (k + 1)).all (okB 8) = true) := by
              show _ = _
              rw [List.take_succ_eq_append_getElem hlt, List.all_append, unhide HA, ← unhide HX]
              simp only [List.all_cons, List.all_nil, Bool.and_true, Bool.true_and]
              exact hok
            clear hok hul
            go_wp2_with fail
            go_round
            case rel => exact ⟨k + 1, by omega, by go_num, unhide HB⟩
            case measure => simp [intOf]; omega
      · have hk2 : k = l.length := by omega
        have hlk : lookE 8 l = 0 := look_ok hm (by have := unhide HA; rw [hk2, List.take_length] at this; exact this)
        have hnk : ¬ ((k : Int) < (l.length : Int)) := by omega
        have HL := hide hlk
        clear hk2 hlk
        go_wp2_with fail
        refine hul.mono ?_
        clear hul
        rintro e w1 ⟨r, rfl, hown, b1⟩
        obtain ⟨N, hN⟩ : ∃ N, N = (unL [] l).length := ⟨_, rfl⟩
        obtain ⟨u1, u2, u3⟩ := unL_mem l
        have hN2 : N ≤ 256 := by omega
        obtain ⟨f, hf⟩ : ∃ f : Nat → Int, f = fun j => (unL [] l).getD j 0 := ⟨_, rfl⟩
        have hfu : vals N f = unL [] l := by
          rw [hN, hf]
          unfold vals
          apply List.ext_getElem
          · simp
          · intro i h1 h2
            simp [List.getD, List.getElem?_eq_getElem h2]
        have hfi : ∀ i j, i < N → j < N → f i = f j → i = j := fun i j hi hj e => by
          rw [hN] at hi hj
          have e1 : (unL [] l)[i] = (unL [] l)[j] := by
            rw [hf] at e
            simpa [List.getD, List.getElem?_eq_getElem hi, List.getElem?_eq_getElem hj] using e
          exact (List.getElem_inj u1).1 e1
        have hfs : Small N f := fun j hj => by
          have : f j ∈ unL [] l := by rw [← hfu]; exact mem_vals.2 ⟨j, hj, rfl⟩
          exact (look_zero (unhide HL) (Nat.le_refl _)).2.2 _ ((u2 _).1 this).2
        obtain ⟨ra, rc, er⟩ : ∃ a c, r = .slice a N c := by
          obtain ⟨a, c, e, _⟩ := hown.intsS
          exact ⟨a, c, by rw [hN]; exact e⟩
        obtain ⟨w2, hmk, hpr, b2, hs2⟩ := mkI w1 N (by omega)
        obtain ⟨b3, hnw, hs3⟩ := box3 w2 r (.slice (some ⟨w1.heap.size, 0, none⟩) N N) (.slice none 0 0) 51
        obtain ⟨w3, hw3⟩ : ∃ w3, w3 = w2.alloc (.cells #[r, .slice (some ⟨w1.heap.size, 0, none⟩) N N, .slice none 0 0] 51) := ⟨_, rfl⟩
        rw [← hw3] at b3 hnw hs3
        have hs1 := b1.size
        have hlA : 0 < N → ∃ lb, ra = some ⟨lb, 0, none⟩ ∧ lb < w1.heap.size ∧ Arr w3 lb N f := fun h0 => by
          rcases hown.2 with ⟨e, _⟩ | ⟨g, cap, cur, e, _, h3, _, _, h6, h7⟩
          · rw [er] at e
            simp only [Value.slice.injEq] at e
            omega
          · rw [er] at e
            simp only [Value.slice.injEq] at e
            refine ⟨g, e.1, lt_heap h3, ?_⟩
            have hA1 : Arr w1 g N f := ⟨cur, h3, fun j hj => by
              have h8 : (cur.toList.take ((unL [] l).length * 1))[j]? = ((unL [] l).map (Value.int .i64))[j]? := by rw [h7]
              rw [List.getElem?_take_of_lt (by omega), Array.getElem?_toList] at h8
              rw [h8, List.getElem?_map, List.getElem?_eq_getElem (show j < (unL [] l).length by omega), hf]
              simp [List.getD, List.getElem?_eq_getElem (show j < (unL [] l).length by omega)]⟩
            exact (hA1.later b2).later b3
        subst er
        have HE := hide (And.intro b1 (And.intro b2 (And.intro b3 (And.intro hnw (And.intro hlA (And.intro hfu (And.intro hfi hfs)))))))
        have HP : Hid (NegR N w1.heap.size w3 (.int .i64 0) w3) := ⟨0, Nat.zero_le _, rfl, (hpr.later b3).congr (fun j _ => (if_neg (by omega)).symm), Keeps.refl _ _⟩
        obtain ⟨pb, hpb⟩ : ∃ pb, pb = w1.heap.size := ⟨_, rfl⟩
        obtain ⟨mb, hmb⟩ : ∃ mb, mb = w2.heap.size := ⟨_, rfl⟩
        rw [← hpb] at hmk hs2 HE HP hs1 hw3
        rw [← hmb] at hs2 hs3 HE
        have HPB := hide (And.intro hpb hmb)
        have hpm : pb < mb := by omega
        have hm3 : mb < w3.heap.size := by omega
        have HS23 := hide (And.intro hs2 hs3)
        clear hown b1 u1 u2 u3 hfu hfi hfs hpr b2 b3 hnw hlA hN hf hpb hs2 hs3
        go_wp2_with fail
        rw [← hw3, ← hmb]
        clear hw3 hmb
        go_loopw [7] (fun i wr => NegR N pb w3 i wr) (fun i _ => N - (intOf i).toNat)
        case atStart => exact unhide HP
        case round =>
          obtain ⟨q, hq, rfl, hpa, hK⟩ := hrel
          obtain ⟨b1, b2, b3, hnw, hlA, hfu, hfi, hfs⟩ := unhide HE
          have hnwr := hK.same _ _ hnw (fun e => by omega)
          obtain ⟨c0, c1, c2, _⟩ := three_cells hnwr
          by_cases hqN : q < N
          · obtain ⟨x0, x1⟩ := hpa.cell hqN
            rw [if_neg (by omega)] at x0
            have HN : Hid (NegR N pb w3 (.int .i64 ((q + 1 : Nat) : Int)) (wr.setCell ⟨pb, q, none⟩ (.int .i64 (-1)))) := ⟨q + 1, by omega, rfl, (hpa.set (-1) hqN).congr (fun j hj => by
              by_cases e : j = q
              · rw [e, upd_self, if_pos (by omega)]
              · rw [upd_ne _ _ e]
                by_cases g : j < q
                · rw [if_pos g, if_pos (by omega)]
                · rw [if_neg g, if_neg (by omega)]), hK.setCell ⟨pb, q, none⟩ rfl _⟩
            clear hpa hK b1 b2 b3 hnw hlA hfu hfi hfs hnwr
            go_wp2_with fail
            go_roundw
            case rel =>
              have := unhide HN
              rw [Int.natCast_add] at this
              exact this
            case measure => simp [intOf]; omega
          · have hnq : ¬ ((q : Int) < (N : Int)) := by omega
            have hqN2 : q = N := by omega
            have HSt : Hid (LeR N f (.slice ra N rc) pb mb w3 (.int .i64 (N : Int)) (.int .i64 0) wr) := ⟨0, N, fun _ => -1, .slice none 0 0, Nat.zero_le _, rfl, rfl, ⟨_, _, _, rfl⟩, hpa.congr (fun j hj => if_pos (by omega)), RDone.start N (In f), hnwr, hK.mono (fun _ e => .inl e)⟩
            clear hpa hK b1 b2 b3 hnw hlA hfu hfi hfs hnwr hqN2 c0 c1 c2
            go_wp2_with fail
            go_loopw [8, 9] (fun nv i wr => LeR N f (.slice ra N rc) pb mb w3 nv i wr) (fun _ i _ => N - (intOf i).toNat)
            case atStart => exact unhide HSt
            case round =>
              obtain ⟨j, n, pair, sv, hj, rfl, rfl, ⟨sa, sn, sc, rfl⟩, hpa, hdn, hmx, hK⟩ := hrel
              obtain ⟨b1, b2, b3, hnw, hlA, hfu, hfi, hfs⟩ := unhide HE
              obtain ⟨c0, c1, c2, d0, d1, d2⟩ := three_cells hmx
              by_cases hjN : j < N
              · obtain ⟨lb, rfl, hlb, hlarr⟩ := hlA (by omega)
                obtain ⟨w5, hmk5, hsB, b5, hs5⟩ := mkB wr N (by omega)
                have hws := hK.size
                have hmx5 := (b5.block _ (lt_heap hmx)).trans hmx
                have hmbl := lt_heap hmx
                have hpbl := hpa.lt
                obtain ⟨w6, hw6⟩ : ∃ w6, w6 = w5.setCell ⟨mb, 2, none⟩ (.slice (some ⟨wr.heap.size, 0, none⟩) N N) := ⟨_, rfl⟩
                have hmx6 : w6.heap[mb]? = some (.cells #[.slice (some ⟨lb, 0, none⟩) N rc, .slice (some ⟨pb, 0, none⟩) N N, .slice (some ⟨wr.heap.size, 0, none⟩) N N] 51 (0, 0)) := by
                  rw [hw6]
                  exact set_heap hmx5 2 _
                have hK6 : Keeps (fun x => x = mb) w5 w6 := by rw [hw6]; exact (Keeps.refl (fun x => x = mb) w5).setCell ⟨mb, 2, none⟩ rfl _
                have hl6 := ((hlarr.keeps hK (fun e => by omega)).later b5).keeps hK6 (fun e => by omega)
                have hp6 := (hpa.later b5).keeps hK6 (fun e => by omega)
                have hs6 := hsB.keeps hK6 (fun e => by omega)
                have htr := try_any _ w6 mb lb rc pb N wr.heap.size N N f pair (fun _ => false) j rfl hmx6 hl6 hfs hp6 hs6 (by omega) (by omega) (hdn.pre hjN)
                have hK36 : Keeps (fun x => x = pb ∨ x = mb) w3 w6 := (hK.trans (Keeps.of_below (O := fun x => x = pb ∨ x = mb) b5) (fun _ _ e => e)).trans hK6 (fun _ _ e => .inr e)
                obtain ⟨e0, e1, e2, g0, g1, g2⟩ := three_cells hmx5
                have hhad : 1 ≤ n ∨ n = 0 := by omega
                have HF := hide (And.intro hdn (And.intro hmx6 hK36))
                have hn300 : n ≤ 300 := by have := hdn.2.2.2; omega
                clear hpa hdn hmx hK b1 b2 b3 hnw hlA hfu hfi hfs hlarr hsB b5 hmx5 hmx6 hK6 hl6 hp6 hs6 hK36 hhad
                subst hw6
                go_wp2_with fail
                refine htr.mono ?_
                clear htr
                rintro e w7 ⟨hK7, ⟨rfl, pair1, seen1, hp7, hs7, hy⟩ | ⟨rfl, seen1, hp7, hs7, hno⟩⟩
                · obtain ⟨hdn, hmx6, hK36⟩ := unhide HF
                  obtain ⟨hn1, hdn'⟩ := hdn.yes hy
                  have hmx7 := hK7.same _ _ hmx6 (fun e => by omega)
                  have HN : Hid (LeR N f (.slice (some ⟨lb, 0, none⟩) N rc) pb mb w3 (.int .i64 ((n - 1 : Nat) : Int)) (.int .i64 ((j + 1 : Nat) : Int)) w7) := ⟨j + 1, n - 1, pair1, _, by omega, rfl, rfl, ⟨_, _, _, rfl⟩, hp7, hdn', hmx7, hK36.trans hK7 (fun x hx e => by omega)⟩
                  have hsub : ((n : Int) - 1) = ((n - 1 : Nat) : Int) := by omega
                  clear hdn hmx6 hK36 hdn' hmx7 hK7 hp7 hs7 hy e0 e1 e2 g0 g1 g2 c0 c1 c2 d0 d1 d2
                  go_wp2_with fail
                  go_roundw
                  case rel =>
                    have := unhide HN
                    rw [Int.natCast_add] at this
                    first
                    | exact this
                    | (rw [← hsub] at this; exact this)
                  case measure => simp [intOf]; omega
                · obtain ⟨hdn, hmx6, hK36⟩ := unhide HF
                  have hdn' := hdn.no hno
                  have hmx7 := hK7.same _ _ hmx6 (fun e => by omega)
                  have HN : Hid (LeR N f (.slice (some ⟨lb, 0, none⟩) N rc) pb mb w3 (.int .i64 (n : Int)) (.int .i64 ((j + 1 : Nat) : Int)) w7) := ⟨j + 1, n, pair, _, by omega, rfl, rfl, ⟨_, _, _, rfl⟩, hp7, hdn', hmx7, hK36.trans hK7 (fun x hx e => by omega)⟩
                  clear hdn hmx6 hK36 hdn' hmx7 hK7 hp7 hs7 hno e0 e1 e2 g0 g1 g2 c0 c1 c2 d0 d1 d2
                  go_wp2_with fail
                  go_roundw
                  case rel =>
                    have := unhide HN
                    rw [Int.natCast_add] at this
                    exact this
                  case measure => simp [intOf]; omega
              · have hnj : ¬ ((j : Int) < (N : Int)) := by omega
                have hjN2 : j = N := by omega
                rw [hjN2] at hdn
                have HF : Hid ((∀ m, IsLeast l m → (m : Int) = max (n : Int) 1) ∧ Below w.heap.size w wr) := by
                  refine ⟨fun m hm => hdn.answer hfi hfu hm, ?_⟩
                  have hpm := unhide HPB
                  have hs23 := unhide HS23
                  have b12 := b1.trans (b2.mono (by omega))
                  have b13 := b12.trans (b3.mono (by omega))
                  exact b13.trans (hK.below (by omega) (fun x e => by omega))
                clear hpa hdn hmx hK b1 b2 b3 hnw hlA hfu hfi hfs hjN2
                go_wp2_with fail
                go_ret2
                obtain ⟨hF1, hF2⟩ := unhide HF
                exact ⟨max (n : Int) 1, tup2 rfl (unhide HL).symm, fun _ => hF1, fun g => absurd (unhide HL) g, hF2⟩
  · have hm1 : (256 : Int) < (l.length : Int) := by omega
    have HB := hide (look_many (wd := 8) hm)
    go_enter Try.func10, Try.ntmps10
    go_wp2_with fail
    go_ret2
    exact ⟨0, tup2 rfl (unhide HB).symm, fun g => (by rw [unhide HB] at g; cases g), fun _ => rfl, Below.refl _ _⟩
end Go.Proofs.Ytclialdbaclpoaa
