/- BtreeOwn: the walk itself. -/
import Derived.Test.YtmjlhmhkbfnccaaOwnW
namespace Go.Proofs.Ytmjlhmhkbfnccaa
open Go.RowKit Go.Shelf Go.Maps

attribute [local go_sem] Oper.semAt_some

theorem Both.step {S : Nat → Prop} {W w w' : World} {s h rb base : Nat} {o : List Int} {A : List (List Int)} (hb : Both S W w s h rb o A) (hs : Step base w w') (hW : W.heap.size ≤ base) : Both S W w' s h rb o A := by
  obtain ⟨l, hS, hl2⟩ := hb.t
  obtain ⟨ov, p, d, hh, _⟩ := hS.held
  obtain ⟨ov2, tv2, hh2, _⟩ := hb.r.cells
  exact ⟨⟨l, hS.stays hs.stays ((hs.same _ _ hh (.inr rfl)).trans hh.symm), hl2⟩, hb.r.stays hs.stays ((hs.same _ _ hh2 (.inr rfl)).trans hh2.symm), hb.ne, hb.l1, hb.l2, hb.bel.trans (hs.below hW hb.bel.size)⟩
/-- A row of one's own that is written over. -/
def WRel (base : Nat) (rv : Value) (n : Nat) (w3 : World) (i : Value) (wr : World) : Prop := ∃ (j : Nat) (l : List Int), j ≤ n ∧ i = .int .i64 (j : Int) ∧ l.length = n ∧ OwnI base wr rv l ∧ Keeps (fun b => some b = rv.ownBlock) w3 wr
def OwnRel (W : World) (s h rb : Nat) (o : List Int) (n : Nat) (i : Value) (wr : World) : Prop := ∃ (k : Nat) (A : List (List Int)), k ≤ n ∧ i = .int .i64 (k : Int) ∧ Both (fun b => b ≠ h ∧ b ≠ rb) W wr s h rb o A
/-- What was handed, written over. -/
def TRel (H : Nat → Prop) (va : Option Addr) (n : Nat) (Wx : World) (i : Value) (wr : World) : Prop := ∃ j : Nat, j ≤ n ∧ i = .int .i64 (j : Int) ∧ Keeps H Wx wr ∧ (0 < n → ∃ b off cur tt fz, va = some ⟨b, off, none⟩ ∧ H b ∧ wr.heap[b]? = some (.cells cur tt fz) ∧ off + n ≤ cur.size ∧ ∀ q, q < n → wr.frozen? ⟨b, off + q, none⟩ = false)
theorem frozen_at {w w' : World} {b i : Nat} {cur cur' : Array Value} {t t' : TypeId} {fz : Nat × Nat} (h : w.heap[b]? = some (.cells cur t fz)) (h' : w'.heap[b]? = some (.cells cur' t' fz)) : w'.frozen? ⟨b, i, none⟩ = w.frozen? ⟨b, i, none⟩ := by simp [World.frozen?, h, h']
theorem TRel.start {H : Nat → Prop} {va : Option Addr} {vc : Nat} {l : List Int} {Wx : World} (hi : IntsS H Wx (.slice va l.length vc) l) (hf : Free Wx (.slice va l.length vc) l) : TRel H va l.length Wx (.int .i64 ((0 : Nat) : Int)) Wx := by
  refine ⟨0, Nat.zero_le _, rfl, Keeps.refl H Wx, fun h0 => ?_⟩
  obtain ⟨a, cap, e, _, _, hc⟩ := hi
  cases e
  obtain ⟨b, off, e, hb, hcell⟩ := hc (l.length - 1) (by omega)
  obtain ⟨ob, ho, hoc⟩ := cells_of_cell hcell
  cases ob with
  | cells cur tt fz =>
    refine ⟨b, off, cur, tt, fz, e, hb, ho, ?_, fun q hq => hf b off _ _ (by rw [e]) q hq⟩
    have h2 := (cell_at ho (off + (l.length - 1))).symm.trans hcell
    have := (Array.getElem?_eq_some_iff.1 h2).1
    omega
  | _ => cases hoc

set_option maxRecDepth 100000 in
set_option maxHeartbeats 4000000 in
theorem own_walk (W : World) (ov lv : Value) (o : List Int) (xs : List (List Int)) (ho : Ints W.heap.size W ov o) (hl : ListAt (fun b => b < W.heap.size) W lv xs) (hB : ∀ x ∈ xs, Bnd x) (hz : ∀ x ∈ xs, x.length * 8 ≤ 140737488351232) :
    Calls Try.prog 8 #[ov, lv] W fun e W' => e = .returned (.bool true) ∧ Below W.heap.size W W' := by
  obtain ⟨a, cap, f, rfl, hc1, hc2, hf⟩ := rowsIn hl hB
  have HF := hide hf
  have HZ : Hid (∀ k, k < xs.length → (xs.getD k []).length * 8 ≤ 140737488355328) := fun k hk => by
    have := hz (xs.getD k []) (by rw [List.getD, List.getElem?_eq_getElem hk]; exact List.getElem_mem hk)
    omega
  clear hl hf hB hz
  obtain ⟨oa, oc, rfl, _⟩ := id ho
  have HO := hide ho
  clear ho
  cases hr : right o with
  | false =>
    have hn1 := new_no W _ o (unhide HO) hr
    have HR := hide hr
    clear hr
    refine calls_marks Try.func8 rfl ?_
    simp only [Try.ntmps8, List.size_toArray, List.length_cons, List.length_nil, Nat.reduceAdd, Nat.reduceSub, Array.replicate_succ, Array.replicate_zero, List.push_toArray, List.append_toArray, List.nil_append, List.cons_append]
    go_wp2_with fail
    refine hn1.mono ?_
    clear hn1
    rintro e w1 ⟨rfl, b1⟩
    have hn2 := rnew_no w1 _ o (((unhide HO).below b1 (Nat.le_refl _)).mono b1.size) (unhide HR)
    have HB1 := hide b1
    clear b1
    go_wp2_with fail
    refine hn2.mono ?_
    clear hn2
    rintro e w2 ⟨rfl, b2⟩
    have hal := alive_any (w2.alloc (.cells #[.slice none 0 0, .slice none 0 0] 56))
    have HB2 := hide (((unhide HB1).trans (b2.mono (unhide HB1).size)).trans ((alloc_below w2 (.cells #[.slice none 0 0, .slice none 0 0] 56)).mono (Nat.le_trans (unhide HB1).size b2.size)))
    clear b2
    go_wp2_with fail
    refine hal.mono ?_
    clear hal
    rintro e w3 ⟨rfl, b3⟩
    have HB3 := hide ((unhide HB2).trans (b3.mono (unhide HB2).size))
    clear b3
    go_wp2_with fail
    exact leaves_marks (base := W.heap.size) (v := .bool true) [] _ List.nodup_nil (fun _ h => by cases h) (fun w' hs => ⟨by simp [results, Try.f8, go_sem], rfl, (unhide HB3).trans (hs.below (Nat.le_refl _) (unhide HB3).size)⟩)
  | true =>
  have hn1 := new_T2 W _ o (unhide HO) hr
  have HR := hide hr
  clear hr
  refine calls_marks Try.func8 rfl ?_
  simp only [Try.ntmps8, List.size_toArray, List.length_cons, List.length_nil, Nat.reduceAdd, Nat.reduceSub, Array.replicate_succ, Array.replicate_zero, List.push_toArray, List.append_toArray, List.nil_append, List.cons_append]
  go_wp2_with fail
  refine hn1.mono ?_
  clear hn1
  rintro e w1 ⟨s, rfl, ⟨h, hT1, l1⟩, b1⟩
  have hn2 := rnew_any w1 _ o (((unhide HO).below b1 (Nat.le_refl _)).mono b1.size) (unhide HR)
  have HB1 := hide (And.intro hT1 (And.intro l1 b1))
  clear hT1 l1 b1
  go_wp2_with fail
  refine hn2.mono ?_
  clear hn2
  rintro e w2 ⟨ra, rc, rfl, hri, b2⟩
  obtain ⟨w3, hw3⟩ : ∃ w3, w3 = w2.alloc (.cells #[.slice ra o.length rc, .slice none 0 0] 56) := ⟨_, rfl⟩
  have b23 : Below w2.heap.size w2 w3 := by rw [hw3]; exact alloc_below _ _
  have hrb : w3.heap[w2.heap.size]? = some (.cells #[.slice ra o.length rc, .slice none 0 0] 56 (0, 0)) := by rw [hw3]; exact World.alloc_heap_new _ _
  have hBo : Both (fun b => b ≠ h ∧ b ≠ w2.heap.size) W w3 s h w2.heap.size o [] := by
    obtain ⟨hT1, l1, b1⟩ := unhide HB1
    have hlt := hT1.lt
    have hs1 := b1.size
    have hs2 := b2.size
    refine ⟨((hT1.mono (S' := fun b => b ≠ h ∧ b ≠ w2.heap.size) (fun b hb hs => ⟨hs.2, by omega⟩) (fun e => e.1 rfl)).later b2).later b23, ⟨⟨_, _, hrb, (hri.mono (fun b hb hs => ⟨by omega, by omega⟩)).later b23, ⟨fun _ => undef, Row.nil _ _ _, fun j hj => by simp at hj⟩, fun _ => rfl⟩, fun e => e.2 rfl⟩, by omega, l1, by omega, (b1.trans (b2.mono hs1)).trans (b23.mono (by omega))⟩
  have hal := alive_any w3
  obtain ⟨rb, hrbe⟩ : ∃ rb, rb = w2.heap.size := ⟨_, rfl⟩
  rw [← hrbe] at hBo
  have HBO := hide hBo
  have HRB := hide hrbe
  clear hBo hrb b23 hri b2 HB1 hrbe
  by_cases h300 : 300 < xs.length
  · have hg : (300 : Int) < (xs.length : Int) := by omega
    go_wp2_with fail
    rw [← hw3]
    refine hal.mono ?_
    clear hal
    rintro e w4 ⟨rfl, b4⟩
    have HB3 := hide ((unhide HBO).later b4).bel
    clear b4
    go_wp2_with fail
    exact leaves_marks (base := W.heap.size) (v := .bool true) [] _ List.nodup_nil (fun _ h => by cases h) (fun w' hs => ⟨by simp [results, Try.f8, go_sem], rfl, (unhide HB3).trans (hs.below (Nat.le_refl _) (unhide HB3).size)⟩)
  have hg : ¬ ((300 : Int) < (xs.length : Int)) := by omega
  go_wp2_with fail
  rw [← hw3]
  refine hal.mono ?_
  clear hal
  rintro e w4 ⟨rfl, b4⟩
  have HB4 := hide ((unhide HBO).later b4)
  clear b4 HBO hw3
  go_wp2_with fail
  rw [← unhide HRB]
  go_loopw [41] (fun i wr => OwnRel W s h rb o xs.length i wr) (fun i _ => xs.length - (intOf i).toNat)
  case atStart => exact ⟨0, [], Nat.zero_le _, rfl, unhide HB4⟩
  case round =>
    obtain ⟨k, A, hk, rfl, hBo⟩ := hrel
    by_cases hlt : k < xs.length
    · obtain ⟨b, off, rfl, hc, hx, hxB⟩ := unhide HF wr hBo.bel k hlt
      obtain ⟨r, w5, hrun, hown, b5⟩ := appI_run wr _ _ hx (unhide HZ k hlt)
      obtain ⟨x, hxe⟩ : ∃ x, x = xs.getD k [] := ⟨_, rfl⟩
      rw [← hxe] at hx hxB hown
      have HXE := hide hxe
      clear hxe
      obtain ⟨xa, xc, ex, _⟩ := id hx
      have HEX := hide ex
      rw [ex] at hc hrun
      obtain ⟨ra5, rc5, er, _⟩ := id hown.intsS
      have hbase : h < wr.heap.size ∧ rb < wr.heap.size := ⟨hBo.t.lt, hBo.r.lt⟩
      have hB5 : Both (fun b => b ≠ h ∧ b ≠ rb ∧ ¬ (some b = r.ownBlock)) W w5 s h rb o A := (hBo.mono (fun b hb hs => ⟨hs.1, hs.2, fun e => by have := (hown.block b e).1; omega⟩) (fun e => e.1 rfl) (fun e => e.2.1 rfl)).later b5
      have hins := hB5.put hown hxB hbase
      have HUP := hide hB5.t.up
      have hWb := hBo.bel.size
      have HB5 := hide (And.intro hBo.ne (And.intro hBo.l1 hBo.l2))
      have HRUN := hide hrun
      subst er
      clear hBo hx ex hrun hown b5 hB5
      go_wp2_with (at_builtin; refine wpList_append_run _ rfl _ _ 22 rfl _ _ rfl rfl _ _ (unhide HRUN) ?_; clear HRUN)
      refine hins.mono ?_
      clear hins
      rintro e w6 ⟨⟨bb6, er6, rfl⟩, hT6, hR6, hown6, bel6, hsz6⟩
      have hx6 := (unhide HF).ints bel6 hlt
      rw [← unhide HXE] at hx6
      have hrp := Both.rput hT6 hR6 (unhide HUP) hown6 hbase (unhide HB5).1 (unhide HB5).2.1 (unhide HB5).2.2 bel6 hx6
      rw [unhide HEX] at hrp
      clear hT6 hR6 hown6 bel6 hx6 hsz6
      go_wp2_with fail
      refine hrp.mono ?_
      clear hrp
      rintro e w7 ⟨⟨bb7, er7, rfl⟩, hB7, hown7⟩
      have HB7 := hide hB7
      have hxl : x.length * 8 ≤ 140737488355328 := by have := unhide HZ k hlt; rw [← unhide HXE] at this; exact this
      have HW7 : Hid (WRel wr.heap.size (.slice ra5 x.length rc5) x.length w7 (.int .i64 ((0 : Nat) : Int)) w7) := ⟨0, x, Nat.zero_le _, rfl, rfl, hown7, Keeps.refl _ _⟩
      clear hB7 hown7
      go_wp2_with fail
      go_loopw [54] (fun i wr2 => WRel wr.heap.size (.slice ra5 x.length rc5) x.length w7 i wr2) (fun i _ => x.length - (intOf i).toNat)
      case atStart => exact unhide HW7
      case round =>
        obtain ⟨j, l, hj, rfl, hll, hro, hrk⟩ := hrel
        by_cases hjl : j < x.length
        · obtain ⟨g, eg⟩ : ∃ g, ra5 = some ⟨g, 0, none⟩ := by
            rcases hro.2 with ⟨h', _⟩ | ⟨g, cap, cur, h', _⟩
            · simp only [Value.slice.injEq] at h'
              omega
            · simp only [Value.slice.injEq] at h'
              exact ⟨g, h'.1⟩
          subst eg
          obtain ⟨y0, y1⟩ := hro.cell (j := j) (by omega)
          generalize l[j]'_ = c0 at y0
          have HR2 := hide (And.intro hro (And.intro hrk hll))
          clear hro hrk hll
          go_wp2_with fail
          go_roundw
          case rel =>
            obtain ⟨hro, hrk, hll⟩ := unhide HR2
            exact ⟨j + 1, l.set j (-99), by omega, by go_num, by simp [hll], hro.stored hll.symm j _, hrk.setCell ⟨g, j, none⟩ rfl _⟩
          case measure => simp [intOf]; omega
        · have hB8 : Both (fun b => b ≠ h ∧ b ≠ rb) W wr s h rb o (insTo o x A) := ((unhide HB7).keeps hrk (fun e => by have := (hro.block _ e).1; omega) (fun e => by have := (hro.block _ e).1; omega) (fun b _ hs e => hs.2.2 e) (fun b e => by have := (hro.block _ e).1; omega)).mono (fun b _ hs => ⟨hs.1, hs.2.1⟩) (fun e => e.1 rfl) (fun e => e.2 rfl)
          have HB8 := hide hB8
          have hnj : ¬ ((j : Int) < (x.length : Int)) := by omega
          clear hro hrk hll hB8
          go_wp2_with fail
          go_roundw
          case rel => exact ⟨k + 1, _, by omega, by go_num, unhide HB8⟩
          case measure => simp [intOf]; omega
    · have hk2 : k = xs.length := by omega
      subst hk2
      have ha1 := all_T _ wr s h o A hBo.t
      have HBO := hide hBo
      clear hBo
      go_wp2_with fail
      refine ha1.mono ?_
      clear ha1
      rintro e w7 ⟨lb7, its7, rfl, hg7, he7, hn7, b7⟩
      have hB7 : Both (fun b => (b ≠ h ∧ b ≠ rb) ∧ b < w7.heap.size) W w7 s h rb o A := ((unhide HBO).later b7).mono (fun b hb hs => ⟨hs, hb⟩) (fun e => e.1.1 rfl) (fun e => e.1.2 rfl)
      have hlt7 : h < w7.heap.size ∧ rb < w7.heap.size := ⟨hB7.t.lt, hB7.r.lt⟩
      have hWs := hB7.bel.size
      have HB7 := hide hB7
      have HSEQ := hide hg7
      clear hB7 b7 hg7 he7 hn7
      go_wp2_with fail
      refine (wpIn_wide (n := 6)).1 (wp_rangeH (gf := 41) (lb := lb7) rfl eg_all (unhide HSEQ) (fun _ _ _ _ _ h h2 => h.step h2) (fun _ => False) (fun b hb => hb.elim) (fun b _ e => e)
        (fun _ O' Wx => (∀ b, ¬ O' b) ∧ Both (fun b => (b ≠ h ∧ b ≠ rb) ∧ b < w7.heap.size) W Wx s h rb o A) (fun _ _ _ => False) (fun k O A B h h2 => ⟨h.1, h.2.step h2 hWs⟩) (fun _ _ _ _ h _ => h) ⟨fun _ e => e, unhide HB7⟩ ?a1 ?assign ?body ?done ?stop)
      case assign =>
        intro l m v Wx KK hK
        gi_wp2
        exact hK
      case body =>
        intro ll m k' O2 H v Wx hsz hO2 hH hlt hi hy
        obtain ⟨hno, hBx⟩ := hi
        obtain ⟨y, hyx, hyi, hyf⟩ := hy
        obtain ⟨va, vc, rfl, hvl⟩ := id hyi
        have HT0 := hide (TRel.start hyi hyf)
        have HBX := hide (And.intro hno hBx)
        have HHH := hide hH
        have hvc := hvl.1
        have hvc2 := hvl.2.1
        clear hvl
        clear hyi hyf hno hBx hH hyx
        generalize y.2.length = len at HT0 hvc ⊢
        gi_wp2
        gi_loopw [67] (fun i wr => TRel H va len Wx i wr) (fun i _ => len - (intOf i).toNat)
        case atStart => exact unhide HT0
        case round =>
          obtain ⟨j, hj, rfl, hk, hfree⟩ := hrel
          by_cases hjl : j < len
          · obtain ⟨b, off, cur, tt, fz, rfl, hHb, hheap, hsz2, hfz⟩ := hfree (by omega)
            have hcell : wr.cell? ⟨b, off + j, none⟩ = some (cur[off + j]'(by omega)) := by rw [cell_at hheap]; exact Array.getElem?_eq_getElem (by omega)
            have hfr := hfz j hjl
            generalize cur[off + j]'_ = c0 at hcell
            have HK := hide (And.intro hk (And.intro hHb (And.intro hheap (And.intro hsz2 hfz))))
            clear hk hHb hheap hsz2 hfz hfree
            gi_wp2
            go_roundw
            case rel =>
              obtain ⟨hk, hHb, hheap, hsz2, hfz⟩ := unhide HK
              have hs' := set_heap hheap (off + j) (.int .i64 (-77))
              exact ⟨j + 1, by omega, by go_num, hk.setCell ⟨b, off + j, none⟩ hHb _, fun _ => ⟨b, off, _, tt, fz, rfl, hHb, hs', by simpa using hsz2, fun q hq => (frozen_at hheap hs').trans (hfz q hq)⟩⟩
            case measure => simp [intOf]; omega
          · have hnj : ¬ ((j : Int) < (len : Int)) := by omega
            have HK := hide hk
            clear hk hfree
            gi_wp2
            obtain ⟨hno, hBx⟩ := unhide HBX
            exact ⟨⟨O2, ⟨hno, hBx.keeps (unhide HK) (fun e => by have := (unhide HHH _ e).1; omega) (fun e => by have := (unhide HHH _ e).1; omega) (fun b _ hs e => by have := (unhide HHH _ e).1; omega) (fun b e => by have := (unhide HHH _ e).1; omega)⟩, fun b hb => (hno b hb).elim⟩, (unhide HK).mono (fun b h => .inr h)⟩
      case stop =>
        rintro D cc k' Wx hD hk' h hDx
        exact h.elim
      case done =>
        rintro D O2 Wx hD hO2 ⟨hno, hBx⟩ hDx
        obtain ⟨l, hS, _⟩ := id hBx.t
        have hord := order_set _ Wx s h o l hS
        have hDlt : D < Wx.heap.size := lt_heap hDx
        have hw7 : w7.heap.size ≤ Wx.heap.size := by omega
        have hltx : h < Wx.heap.size ∧ rb < Wx.heap.size := ⟨hBx.t.lt, hBx.r.lt⟩
        have hWx := hBx.bel.size
        have HBX := hide hBx
        have HDX := hide (And.intro hD hDx)
        clear hno hBx hS hD hDx hO2
        go_wp2_with fail
        refine hord.mono ?_
        clear hord
        rintro e w9 ⟨r9, rfl, hown9, b9⟩
        obtain ⟨ra9, rc9, er9, _⟩ := id hown9.intsS
        have h8 := (right_in (unhide HR)).1
        subst er9
        have HB9 := hide ((unhide HBX).later b9)
        have HD9 : Hid (w9.heap[D]? = some (.deferred (some []))) := (b9.block _ hDlt).trans (unhide HDX).2
        have HW9 : Hid (WRel Wx.heap.size (.slice ra9 o.length rc9) o.length w9 (.int .i64 ((0 : Nat) : Int)) w9) := ⟨0, o, Nat.zero_le _, rfl, rfl, hown9, Keeps.refl _ _⟩
        clear hown9 b9
        go_wp2_with fail
        go_loopw [78] (fun i wr2 => WRel Wx.heap.size (.slice ra9 o.length rc9) o.length w9 i wr2) (fun i _ => o.length - (intOf i).toNat)
        case atStart => exact unhide HW9
        case round =>
          obtain ⟨j, l2, hj, rfl, hll, hro, hrk⟩ := hrel
          by_cases hjl : j < o.length
          · obtain ⟨g, eg⟩ : ∃ g, ra9 = some ⟨g, 0, none⟩ := by
              rcases hro.2 with ⟨h', _⟩ | ⟨g, cap, cur, h', _⟩
              · simp only [Value.slice.injEq] at h'
                omega
              · simp only [Value.slice.injEq] at h'
                exact ⟨g, h'.1⟩
            subst eg
            obtain ⟨y0, y1⟩ := hro.cell (j := j) (by omega)
            generalize l2[j]'_ = c0 at y0
            have HR2 := hide (And.intro hro (And.intro hrk hll))
            clear hro hrk hll
            go_wp2_with fail
            go_roundw
            case rel =>
              obtain ⟨hro, hrk, hll⟩ := unhide HR2
              exact ⟨j + 1, l2.set j (-5), by omega, by go_num, by simp [hll], hro.stored hll.symm j _, hrk.setCell ⟨g, j, none⟩ rfl _⟩
            case measure => simp [intOf]; omega
          · have hB10 : Both (fun b => (b ≠ h ∧ b ≠ rb) ∧ b < w7.heap.size) W wr s h rb o A := (unhide HB9).keeps hrk (fun e => by have := (hro.block _ e).1; omega) (fun e => by have := (hro.block _ e).1; omega) (fun b _ hs e => by have := (hro.block _ e).1; omega) (fun b e => by have := (hro.block _ e).1; omega)
            have hD10 : wr.heap[D]? = some (.deferred (some [])) := hrk.same _ _ (unhide HD9) (fun e => by have := (hro.block _ e).1; omega)
            have hDr := lt_heap hD10
            have hnj : ¬ ((j : Int) < (o.length : Int)) := by omega
            obtain ⟨rov, rtv, hrh, hrov, hrL, _⟩ := hB10.r.cells
            obtain ⟨roa, roc, erov, _⟩ := id hrov
            obtain ⟨ff, ⟨rta, rtc, ertv, _⟩, _⟩ := id hrL
            subst erov ertv
            have hrlt := lt_heap hrh
            obtain ⟨k0, k1, _⟩ := two_cells hrh
            have hall := all_T _ wr.drew s h o A (hB10.step (Step.drew W.heap.size wr) (Nat.le_refl _)).t
            have HB10 := hide hB10
            have HRL := hide (And.intro hrov hrL)
            have HRH := hide hrh
            have HBEL := hide hB10.bel
            have mixed : Try.prog.follows .mixedOrders = true := by kernel_rfl
            have hrsz := hB10.bel.size
            clear hro hrk hll hB10 hrov hrL hrh
            go_wp2_with fail
            obtain ⟨PP, hPP⟩ : ∃ PP : Act → World → Prop, PP = fun a' w2 => a'.defers = [{ target := .collected D, args := #[] }] ∧ a'.tmps.getD 4 undef = .bool true ∧ Below wr.heap.size wr w2 := ⟨_, rfl⟩
            have HPP := hide hPP
            clear hPP
            refine wp_mono (Q := fun e a' w2 => match e with | Exit.normal => PP a' w2 | _ => False) ?_ ?_
            · go_region_with (first
                | (go_at_call 18; refine hall.mono ?_; clear hall; rintro e v1 ⟨lb1, its1, rfl, hg1, he1, hn1, b1'⟩; have b1 : Below wr.heap.size wr v1 := ((Below.refl _ wr).drew).trans b1'; have hlist := list_G v1 _ lb1 its1 _ _ hg1 eg_all hn1 he1; have m0 := (b1.cell (p := ⟨rb, 0, none⟩) hrlt).trans k0; have m1 := (b1.cell (p := ⟨rb, 1, none⟩) hrlt).trans k1; have B1 := hide b1; clear hg1 he1 hn1 b1 b1')
                | (go_at_call 17; refine hlist.mono ?_; clear hlist; rintro e v2 ⟨rv2, rfl, hL2, b2'⟩; have b2 : Below wr.heap.size wr v2 := (unhide B1).trans (b2'.mono (unhide B1).size); have hrv : ∃ ra rc, rv2 = .slice ra A.length rc := (by obtain ⟨_, ⟨ra, rc, e, _⟩, _⟩ := id hL2; exact ⟨ra, rc, e⟩); obtain ⟨ra2, rc2, rfl⟩ := hrv; have hsm := rsame_any (fun _ => True) v2 _ _ _ _ (hL2.mono (fun _ _ _ => trivial)) (((unhide HRL).2.later b2).mono (fun _ _ _ => trivial)); have n0 := (b2.cell (p := ⟨rb, 0, none⟩) hrlt).trans k0; have n1 := (b2.cell (p := ⟨rb, 1, none⟩) hrlt).trans k1; have e2 : sameLB A A = true := (by simp [sameLB]); rw [e2] at hsm; have B2 := hide b2; clear hL2 b2 b2' e2)
                | (go_at_call 16; refine hsm.mono ?_; clear hsm; rintro e v3 ⟨rfl, b3'⟩; have b3 : Below wr.heap.size wr v3 := (unhide B2).trans (b3'.mono (unhide B2).size); have hord3 := (by obtain ⟨l3, hS3, _⟩ := ((unhide HB10).later b3).t; exact order_set _ v3 s h o l3 hS3 : Calls Try.prog 27 #[.pointer (some ⟨s, 0, none⟩)] v3 fun e w' => ∃ r, e = .returned r ∧ OwnI v3.heap.size w' r o ∧ Below v3.heap.size v3 w'); have o0 := (b3.cell (p := ⟨rb, 0, none⟩) hrlt).trans k0; have B3 := hide b3; clear b3 b3')
                | (go_at_call 27; refine hord3.mono ?_; clear hord3; rintro e v4 ⟨r4, rfl, hown4, b4'⟩; have b4 : Below wr.heap.size wr v4 := (unhide B3).trans (b4'.mono (unhide B3).size); have hrv : ∃ ra rc, r4 = .slice ra o.length rc := (by obtain ⟨ra, rc, e, _⟩ := hown4.intsS; exact ⟨ra, rc, e⟩); obtain ⟨ra4, rc4, rfl⟩ := hrv; have hs4 := same_any v4.heap.size v4 _ _ o o (Nat.le_refl _) hown4.intsS.ints (((unhide HRL).1.later b4).ints); have p0 := (b4.cell (p := ⟨rb, 0, none⟩) hrlt).trans k0; have e4 : sameB o o = true := (by simp [sameB]); rw [e4] at hs4; have B4 := hide b4; clear hown4 b4 b4' e4)
                | (go_at_call 24; refine hs4.mono ?_; clear hs4; rintro e v5 ⟨rfl, b5'⟩; have B5 := hide ((unhide B4).trans (b5'.mono (unhide B4).size)); clear b5'))
              all_goals
                rw [unhide HPP]
                exact ⟨rfl, rfl, unhide B5⟩
            · intro e a' w2 hq
              cases e with
              | exit id => exact hq.elim
              | goto tt => exact hq.elim
              | ret => exact hq.elim
              | panic ch => exact hq.elim
              | outgrown => exact hq.elim
              | normal =>
              rw [unhide HPP] at hq
              obtain ⟨hd, h4, hb2⟩ := hq
              obtain ⟨tmps, defers⟩ := a'
              simp only at hd h4
              subst hd
              have h4' : tmps[4]?.getD undef = .bool true := by simpa using h4
              have HB2 := hide hb2
              clear hb2 h4
              go_wp2_with fail
              refine leaves_marks (base := W.heap.size) (v := .bool true) [D] _ (by simp) (fun E hE => ?_) (fun w' hs => ⟨by simp [results, Try.f8, go_sem, h4'], rfl, ((unhide HBEL).trans ((unhide HB2).mono hrsz)).trans (hs.below (Nat.le_refl _) (Nat.le_trans (unhide HBEL).size (unhide HB2).size))⟩)
              have e : E = D := by simpa using hE
              rw [e]
              refine ⟨by have := (unhide HDX).1; omega, ((unhide HB2).block _ hDr).trans hD10⟩
end Go.Proofs.Ytmjlhmhkbfnccaa
