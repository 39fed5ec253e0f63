/- The walk of ChainOwn. -/
import Derived.Test.YtclialdbaclpoaaServesW
namespace Go.Proofs.Ytclialdbaclpoaa
open Go.RowKit Go.Shelf Go.Maps

def SRel (w : World) (l m : List Int) (i : Value) (wr : World) : Prop := ∃ k : Nat, k ≤ l.length ∧ i = .int .i64 k ∧ l.take k = m.take k ∧ Below w.heap.size w wr
def sameB (l m : List Int) : Bool := decide (l = m)
theorem same_next {l m : List Int} {k : Nat} (h1 : k < l.length) (h2 : k < m.length) (h : l.take k = m.take k) (e : l[k] = m[k]) : l.take (k + 1) = m.take (k + 1) := by
  rw [List.take_succ_eq_append_getElem h1, List.take_succ_eq_append_getElem h2, h, e]

set_option maxRecDepth 100000 in
set_option maxHeartbeats 4000000 in
theorem same_any (B : Nat) (w : World) (u v : Value) (l m : List Int) (hB : B ≤ w.heap.size) (h : Ints B w u l) (h' : Ints B w v m) :
    Calls Try.prog 17 #[u, v] w fun e w' => e = .returned (.bool (sameB l m)) ∧ Below w.heap.size w w' := by
  have HL := hide h
  have HM := hide h'
  obtain ⟨a, cap, rfl, hc1, hc2, _⟩ := h
  obtain ⟨a2, cap2, rfl, hd1, hd2, _⟩ := h'
  by_cases hl : l.length = m.length
  · have hn : ((l.length : Int) != (m.length : Int)) = false := by simp [hl]
    have HE := hide hl
    clear hl
    go_enter Try.func17, Try.ntmps17
    go_wp2_with fail
    go_loopw [5] (fun i wr => SRel w l m i wr) (fun i _ => l.length - (intOf i).toNat)
    case atStart => exact ⟨0, Nat.zero_le _, rfl, rfl, Below.refl _ _⟩
    case round =>
      obtain ⟨k, hk, rfl, ht, hb⟩ := hrel
      have HT := hide ht
      have HB := hide hb
      clear ht
      by_cases hlt : k < l.length
      · have hlt2 : k < m.length := by have := unhide HE; omega
        obtain ⟨b1, o1, rfl, hx⟩ := ((unhide HL).below hb hB).nat hlt
        obtain ⟨b2, o2, rfl, hy⟩ := ((unhide HM).below hb hB).nat hlt2
        obtain ⟨x, hx1⟩ : ∃ x, x = l[k] := ⟨_, rfl⟩
        obtain ⟨y, hy1⟩ : ∃ y, y = m[k] := ⟨_, rfl⟩
        rw [← hx1] at hx
        rw [← hy1] at hy
        have HX := hide hx1
        have HY := hide hy1
        clear hx1 hy1 hb
        by_cases hxy : x = y
        · have hne : (x != y) = false := by simp [hxy]
          have HN := hide (same_next hlt hlt2 (unhide HT) (by rw [← unhide HX, ← unhide HY]; exact hxy))
          clear hxy
          go_wp2_with fail
          go_quiet (fail)
          go_wp2_with fail
          go_roundw
          case rel => exact ⟨k + 1, by omega, by go_num, unhide HN, below_drewN (unhide HB) _⟩
          case measure => simp [intOf]; omega
        · have hne : (x != y) = true := by simpa using hxy
          have H : Hid (sameB l m = false) := decide_eq_false (fun e => hxy (by rw [unhide HX, unhide HY]; simp [e]))
          clear hxy
          go_wp2_with fail
          go_quiet (fail)
          go_wp2_with fail
          go_ret
          exact ⟨ret_bool (unhide H).symm, below_drewN (unhide HB) _⟩
      · have hk2 : k = l.length := by omega
        subst hk2
        have H : Hid (sameB l m = true) := decide_eq_true (by have := unhide HT; rw [List.take_length, List.take_of_length_le (by have := unhide HE; omega)] at this; exact this)
        clear hb
        go_wp2_with fail
        go_ret
        exact ⟨ret_bool (unhide H).symm, unhide HB⟩
  · have hn : ((l.length : Int) != (m.length : Int)) = true := by simp; omega
    have H : Hid (sameB l m = false) := decide_eq_false (fun e => hl (by rw [e]))
    clear hl
    go_enter Try.func17, Try.ntmps17
    go_wp2_with fail
    go_ret
    exact ⟨ret_bool (unhide H).symm, Below.refl _ _⟩

/-- Rows that may be written over. -/
structure WL (base : Nat) (w : World) (v : Value) (n : Nat) (vs : List Value) : Prop where
  row : w.ownsRow base 22 1 v n vs
  each : ∀ j, j < n → ∃ ua m uc, vs[j]? = some (.slice ua m uc) ∧ m ≤ uc ∧ uc ≤ 9223372036854775807 ∧ (0 < m → ∃ g cur, ua = some ⟨g, 0, none⟩ ∧ base ≤ g ∧ w.heap[g]? = some (.cells cur 3 (0, 0)) ∧ m ≤ cur.size)
theorem OL.wl {base : Nat} {w : World} {v : Value} {os : List (List Int)} (h : OL base w v os) : ∃ vs, WL base w v os.length vs := by
  obtain ⟨vs, h1, h2⟩ := h
  refine ⟨vs, h1, fun j hj => ?_⟩
  obtain ⟨u, u1, u2, _⟩ := h2 j hj
  rcases u2.2 with ⟨e, e2⟩ | ⟨g, cap, cur, e, q1, q2, q3, q4, q5, _⟩
  · exact ⟨none, 0, 0, by rw [u1, e], Nat.le_refl _, by omega, fun g => by omega⟩
  · exact ⟨_, _, _, by rw [u1, e], q3, by unfold maxLen at q4; omega, fun _ => ⟨g, cur, rfl, q1, q2, by omega⟩⟩
theorem WL.keeps {base : Nat} {A B : World} {v : Value} {n : Nat} {vs : List Value} (h : WL base A v n vs) (hb : Below A.heap.size A B) : WL base B v n vs := by
  refine ⟨ownsRow_keeps h.row (Keeps.of_below (O := fun _ => False) hb) (fun _ _ e => e), fun j hj => ?_⟩
  obtain ⟨ua, m, uc, e1, e2, e3, e4⟩ := h.each j hj
  refine ⟨ua, m, uc, e1, e2, e3, fun g0 => ?_⟩
  obtain ⟨g, cur, q1, q2, q3, q4⟩ := e4 g0
  exact ⟨g, cur, q1, q2, (hb.block _ (lt_heap q3)).trans q3, q4⟩
theorem WL.set {base : Nat} {w : World} {v : Value} {n : Nat} {vs : List Value} (h : WL base w v n vs) {g k : Nat} {cur : Array Value} (hg : w.heap[g]? = some (.cells cur 3 (0, 0))) (x : Value) : WL base (w.setCell ⟨g, k, none⟩ x) v n vs := by
  have hK : Keeps (fun b => b = g) w (w.setCell ⟨g, k, none⟩ x) := (Keeps.refl (fun b => b = g) w).setCell ⟨g, k, none⟩ rfl x
  refine ⟨ownsRow_keeps h.row hK (fun b hb e => ?_), fun j hj => ?_⟩
  · subst e
    rcases h.row.2 with ⟨e, _⟩ | ⟨g', cap, cur', e, _, h3, _⟩
    · rw [e] at hb; cases hb
    · rw [e] at hb
      simp only [Value.ownBlock, Option.some.injEq] at hb
      rw [← hb, hg] at h3
      simp at h3
  · obtain ⟨ua, m, uc, e1, e2, e3, e4⟩ := h.each j hj
    refine ⟨ua, m, uc, e1, e2, e3, fun g0 => ?_⟩
    obtain ⟨g', cur', q1, q2, q3, q4⟩ := e4 g0
    by_cases e : g' = g
    · subst e
      exact ⟨g', _, q1, q2, set_heap q3 k x, by simpa using q4⟩
    · exact ⟨g', cur', q1, q2, hK.same _ _ q3 e, q4⟩
def OwR (base : Nat) (v : Value) (n : Nat) (vs : List Value) (w3 : World) (i : Value) (wr : World) : Prop := ∃ k : Nat, k ≤ n ∧ i = .int .i64 (k : Int) ∧ WL base wr v n vs ∧ Keeps (fun b => base ≤ b) w3 wr

def OwR2 (m base : Nat) (v : Value) (n : Nat) (vs : List Value) (w3 : World) (i : Value) (wr : World) : Prop := ∃ q : Nat, q ≤ m ∧ i = .int .i64 (q : Int) ∧ WL base wr v n vs ∧ Keeps (fun b => base ≤ b) w3 wr

set_option maxRecDepth 100000 in
set_option maxHeartbeats 8000000 in
theorem own_walk (w : World) (width : Int) (v : Value) (l : List Int) (h : Ints w.heap.size w v l) (hz : l.length * 8 ≤ 140737488351232) :
    Calls Try.prog 8 #[.int .i64 width, v] w fun e w' => e = .returned (.bool true) ∧ Below w.heap.size w w' := by
  obtain ⟨r, w1, hrun, hown, b1⟩ := appI_run w v l h (by omega)
  have hor := orders_any w1 width r l hown.intsS.ints
  have HI := hide h
  obtain ⟨va, vc, rfl, _⟩ := id h
  obtain ⟨ra, rc, er⟩ : ∃ a c, r = .slice a l.length c := by obtain ⟨a, c, e, _⟩ := hown.intsS; exact ⟨a, c, e⟩
  subst er
  have HRUN := hide hrun
  have HE1 := hide (And.intro hown b1)
  have HOL := hide (ordE_look (width := width) (l := l))
  have hs1 := b1.size
  clear h hrun hown b1
  go_enter Try.func8, Try.ntmps8
  go_wp2_with (at_builtin; refine wpList_append_run _ rfl _ _ 22 rfl _ _ rfl rfl _ _ (unhide HRUN) ?_)
  refine hor.mono ?_
  clear hor
  rintro e w2 ⟨av, os, rfl, hOL, hno, hyes, b2⟩
  obtain ⟨hown, b1⟩ := unhide HE1
  have b02 := b1.trans (b2.mono hs1)
  have hs2 := b2.size
  have hsm := same_any w2.heap.size w2 _ _ l l (Nat.le_refl _) (((hown.intsS.ints).below b2 (Nat.le_refl _)).mono hs2) (((unhide HI).below b02 (Nat.le_refl _)).mono b02.size)
  rw [show sameB l l = true from decide_eq_true rfl] at hsm
  have hosb : os.length ≤ 17592186043906 := by
    by_cases g : ordE width l = 0
    · have := (hyes g).1.le
      omega
    · rw [hno g]
      simp
  obtain ⟨vs, hwl⟩ := hOL.wl
  obtain ⟨aa, ac, ea⟩ := hOL.len
  have HE2 := hide (And.intro hno (And.intro hyes (And.intro b2 hwl)))
  subst ea
  clear hown b1 hOL hno hyes b2 b02 hwl
  go_wp2_with fail
  refine hsm.mono ?_
  clear hsm
  rintro e w3 ⟨rfl, b3⟩
  obtain ⟨hno, hyes, b2, hwl⟩ := unhide HE2
  have HS : Hid (OwR w1.heap.size (.slice aa os.length ac) os.length vs w3 (.int .i64 0) w3) := ⟨0, Nat.zero_le _, rfl, hwl.keeps b3, Keeps.refl _ _⟩
  have HB3 := hide (And.intro b2 b3)
  have hs3 := b3.size
  clear hno hyes b2 hwl b3
  go_wp2_with fail
  go_loopw [30] (fun i wr => OwR w1.heap.size (.slice aa os.length ac) os.length vs w3 i wr) (fun i _ => os.length - (intOf i).toNat)
  case atStart => exact unhide HS
  case round =>
    rename World => Wo
    obtain ⟨k, hk, rfl, hwl, hK⟩ := hrel
    by_cases hlt : k < os.length
    · obtain ⟨ua, m, uc, e1, e2, e3, e4⟩ := hwl.each k hlt
      obtain ⟨g, eg⟩ : ∃ g, aa = some ⟨g, 0, none⟩ := by
        rcases hwl.row.2 with ⟨e, _⟩ | ⟨g, cap, cur, e, _⟩
        · simp only [Value.slice.injEq] at e
          omega
        · simp only [Value.slice.injEq] at e
          exact ⟨g, e.1⟩
      subst eg
      have hcell : ∀ wr, WL w1.heap.size wr (.slice (some ⟨g, 0, none⟩) os.length ac) os.length vs → wr.cell? ⟨g, k, none⟩ = some (.slice ua m uc) := fun wr h => by
        rw [World.ownsRow.cellAt h.row k (by omega)]
        exact e1
      have x0 := hcell Wo hwl
      have HS2 : Hid (OwR2 m w1.heap.size (.slice (some ⟨g, 0, none⟩) os.length ac) os.length vs w3 (.int .i64 0) Wo) := ⟨0, Nat.zero_le _, rfl, hwl, hK⟩
      have HC := hide hcell
      have hkl : (k : Int) < (os.length : Int) := by omega
      clear hwl hK e1 e4 hcell
      go_wp2_with fail
      go_loopw [38] (fun i wr => OwR2 m w1.heap.size (.slice (some ⟨g, 0, none⟩) os.length ac) os.length vs w3 i wr) (fun i _ => m - (intOf i).toNat)
      case atStart => exact unhide HS2
      case round =>
        obtain ⟨q, hq, rfl, hwl, hK⟩ := hrel
        have y0 := unhide HC wr hwl
        by_cases hqm : q < m
        · obtain ⟨ua', m', uc', e1', _, _, e4'⟩ := hwl.each k hlt
          have e5 : some (Value.slice ua m uc) = some (Value.slice ua' m' uc') := by
            rw [← e1']
            have := World.ownsRow.cellAt hwl.row k (by omega)
            rw [y0] at this
            exact this
          simp only [Option.some.injEq, Value.slice.injEq] at e5
          obtain ⟨rfl, rfl, rfl⟩ := e5
          obtain ⟨g2, cur, rfl, hg2, hg3, hg4⟩ := e4' (by omega)
          have z0 : wr.cell? ⟨g2, q, none⟩ = some (cur[q]'(by omega)) := (cell_at hg3 q).trans (Array.getElem?_eq_getElem _)
          have z1 : wr.frozen? ⟨g2, q, none⟩ = false := by simp [World.frozen?, hg3]
          generalize cur[q]'_ = cq at z0
          have HN : Hid (OwR2 m w1.heap.size (.slice (some ⟨g, 0, none⟩) os.length ac) os.length vs w3 (.int .i64 ((q + 1 : Nat) : Int)) (wr.setCell ⟨g2, q, none⟩ (.int .i64 (-1)))) := ⟨q + 1, by omega, rfl, hwl.set hg3 _, hK.setCell ⟨g2, q, none⟩ hg2 _⟩
          clear hwl hK e1' e4' hg3 hg4 HC
          go_wp2_with fail
          go_roundw
          case rel =>
            have := unhide HN
            rw [Int.natCast_add] at this
            exact this
          case measure => simp [intOf]; omega
        · have hnq : ¬ ((q : Int) < (m : Int)) := by omega
          have HN : Hid (OwR w1.heap.size (.slice (some ⟨g, 0, none⟩) os.length ac) os.length vs w3 (.int .i64 ((k + 1 : Nat) : Int)) wr) := ⟨k + 1, by omega, rfl, hwl, hK⟩
          clear hwl hK
          go_wp2_with fail
          refine ⟨?_, ?_⟩
          · have := unhide HN
            rw [Int.natCast_add] at this
            exact this
          · simp [intOf]; omega
    · have hnk : ¬ ((k : Int) < (os.length : Int)) := by omega
      obtain ⟨b2, b3⟩ := unhide HB3
      obtain ⟨hown, b1⟩ := unhide HE1
      have b13 := b2.trans (b3.mono hs2)
      have hob := hown.block
      have bo : Below w1.heap.size w1 Wo := b13.trans (hK.below (by omega) (fun b e => e))
      have b0o := b1.trans (bo.mono hs1)
      have hownO := hown.keeps (O := fun _ => False) (Keeps.of_below bo) (fun _ _ e => e)
      have hor2 := orders_any Wo width _ l hownO.intsS.ints
      have HEo := hide b0o
      have hso := b0o.size
      clear hwl hK b2 b3 hown b1 b13 hob bo b0o hownO
      go_wp2_with fail
      refine hor2.mono ?_
      clear hor2
      rintro e w6 ⟨bv, os2, rfl, hOL6, hno6, hyes6, b6⟩
      obtain ⟨hno, hyes, _, _⟩ := unhide HE2
      have hll : os.length = os2.length := by
        by_cases g : ordE width l = 0
        · exact (hyes g).1.same (hyes6 g).1 (fun _ => Iff.rfl)
        · rw [hno g, hno6 g]
      obtain ⟨ba, bc, eb⟩ := hOL6.len
      have HE6 := hide (And.intro hOL6 (And.intro hyes6 ((unhide HEo).trans (b6.mono hso))))
      rw [← hll] at eb
      subst eb
      have HLL := hide hll
      clear hno hyes hOL6 hno6 hyes6 b6 hll HE2
      generalize ordE width l = OE at HE6 HOL
      go_wp2_with fail
      go_loop [57] (fun i => S1R l.length i) (fun i => l.length - (intOf i).toNat)
      case atStart => exact ⟨0, Nat.zero_le _, rfl⟩
      case round =>
        obtain ⟨q, hq, rfl⟩ := hrel
        obtain ⟨hOL6, hyes6, b06⟩ := unhide HE6
        by_cases hlq : q < l.length
        · obtain ⟨b, off, rfl, hc⟩ := ((unhide HI).below b06 (Nat.le_refl _)).nat hlq
          obtain ⟨x, hx⟩ : ∃ x, x = l[q] := ⟨_, rfl⟩
          rw [← hx] at hc
          have hpk := rpick_any _ w6 _ os2 hOL6.list x
          by_cases hOE : OE = 0
          · rw [pick_some ((hyes6 hOE).2.2 x (by rw [hx]; exact List.getElem_mem hlq))] at hpk
            generalize pickN os2 x = pn at hpk
            clear hOL6 hyes6 b06 hx
            subst hOE
            go_wp2_with fail
            refine hpk.mono ?_
            clear hpk
            rintro e w7 ⟨rfl, hw7⟩
            subst hw7
            go_wp2_with fail
            go_round
            case rel => exact ⟨q + 1, by omega, by go_num⟩
            case measure => simp [intOf]; omega
          · have hOE1 : (OE == 0) = false := by simpa using hOE
            generalize pickN os2 x = pn at hpk
            generalize pickB os2 x = pb at hpk
            clear hOL6 hyes6 b06 hx hOE
            go_wp2_with fail
            refine hpk.mono ?_
            clear hpk
            rintro e w7 ⟨rfl, hw7⟩
            subst hw7
            go_wp2_with fail
            go_round
            case rel => exact ⟨q + 1, by omega, by go_num⟩
            case measure => simp [intOf]; omega
        · have hnq : ¬ ((q : Int) < (l.length : Int)) := by omega
          have hal := alive_any w6
          have HB := hide b06
          clear hOL6 hyes6 b06
          go_wp2_with fail
          refine hal.mono ?_
          clear hal
          rintro e w8 ⟨rfl, b8⟩
          have HB8 := hide b8
          clear b8
          go_wp2_with fail
          go_ret
          exact ⟨rfl, (unhide HB).trans ((unhide HB8).mono (unhide HB).size)⟩
end Go.Proofs.Ytclialdbaclpoaa
