/- Walks of Wrong and of ChainServes. -/
import Derived.Test.YtclialdbaclpoaaLeastW
namespace Go.Proofs.Ytclialdbaclpoaa
open Go.RowKit Go.Shelf Go.Maps

theorem okB_mono {wd : Nat} (hw : wd ≤ 8) {x : Int} (h : okB wd x = true) : okB 8 x = true := by
  rw [okB_iff] at h ⊢
  have : 2 ^ wd ≤ 2 ^ 8 := Nat.pow_le_pow_right (by omega) hw
  omega
theorem look_eight {wd : Nat} (hw : wd ≤ 8) (l : List Int) : lookE wd l = if lookE 8 l ≠ 0 then lookE 8 l else if l.all (okB wd) = true then 0 else 1 := by
  unfold lookE
  by_cases h1 : l.length ≤ 256
  · cases h2 : l.all (okB 8) with
    | true => simp only [h1, if_true, ne_eq, not_true_eq_false, if_false]
    | false =>
      have h3 : l.all (okB wd) = false := by
        cases g : l.all (okB wd) with
        | false => rfl
        | true =>
          have : l.all (okB 8) = true := List.all_eq_true.2 fun x hx => okB_mono hw (List.all_eq_true.1 g x hx)
          rw [this] at h2; cases h2
      simp [h1, h3]
  · simp [h1]
theorem wrong_a {wd : Nat} (hw : wd ≤ 8) {l : List Int} (h : lookE 8 l ≠ 0) : ordE (wd : Int) l = lookE 8 l := by rw [ordE_nat hw, look_eight hw, if_pos h]
theorem wrong_b {wd : Nat} (hw : wd ≤ 8) {l : List Int} (h : lookE 8 l = 0) (g : l.all (okB wd) = true) : ordE (wd : Int) l = 0 := by rw [ordE_nat hw, look_eight hw, if_neg (by simp [h]), if_pos g]
theorem wrong_c {wd : Nat} (hw : wd ≤ 8) {l : List Int} (h : lookE 8 l = 0) (g : ¬ l.all (okB wd) = true) : ordE (wd : Int) l = 1 := by rw [ordE_nat hw, look_eight hw, if_neg (by simp [h]), if_neg g]
def WrR (wd : Nat) (l : List Int) (ev i : Value) : Prop := ∃ (k : Nat) (e : Int), k ≤ l.length ∧ i = .int .i64 (k : Int) ∧ ev = .int .i64 e ∧ ((e = 0 ∧ (l.take k).all (okB wd) = true) ∨ (e = 1 ∧ ¬ l.all (okB wd) = true))

set_option maxRecDepth 100000 in
set_option maxHeartbeats 4000000 in
theorem wrong_any (w : World) (width : Int) (v : Value) (l : List Int) (h : Ints w.heap.size w v l) :
    Calls Try.prog 13 #[.int .i64 width, v] w fun e w' => e = .returned (.int .i64 (ordE width l)) ∧ Below w.heap.size w w' := by
  by_cases hb : width < 0 ∨ 8 < width
  · have HE : Hid (ordE width l = 1) := if_pos hb
    obtain ⟨va, vc, rfl, _⟩ := id h
    clear h
    by_cases h0 : width < 0
    · go_enter Try.func13, Try.ntmps13
      go_wp2_with fail
      go_ret
      exact ⟨ret_int (unhide HE).symm, Below.refl _ _⟩
    · have h8 : 8 < width := by omega
      go_enter Try.func13, Try.ntmps13
      go_wp2_with fail
      go_ret
      exact ⟨ret_int (unhide HE).symm, Below.refl _ _⟩
  · obtain ⟨wd, rfl⟩ : ∃ wd : Nat, width = (wd : Int) := ⟨width.toNat, by omega⟩
    have hw : wd ≤ 8 := by omega
    have HW : Hid ((lookE 8 l ≠ 0 → ordE (wd : Int) l = lookE 8 l) ∧ (lookE 8 l = 0 → (l.all (okB wd) = true → ordE (wd : Int) l = 0) ∧ (¬ l.all (okB wd) = true → ordE (wd : Int) l = 1))) := ⟨wrong_a hw, fun h => ⟨wrong_b hw h, wrong_c hw h⟩⟩
    generalize ordE (wd : Int) l = OE at HW
    have hrl := rleast_any w v l h
    have HI := hide h
    obtain ⟨va, vc, rfl, _⟩ := id h
    have hw0 : ¬ ((wd : Int) < 0) := by omega
    have hw8 : ¬ ((8 : Int) < (wd : Int)) := by omega
    clear h hb
    generalize lookE 8 l = L at hrl HW
    go_enter Try.func13, Try.ntmps13
    go_wp2_with fail
    refine hrl.mono ?_
    clear hrl
    rintro e w1 ⟨m, rfl, _, _, b1⟩
    have HB := hide b1
    clear b1
    by_cases hL : L = 0
    · subst hL
      have HW2 := hide ((unhide HW).2 rfl)
      clear HW
      go_wp2_with fail
      go_loop [6, 7] (fun ev i => WrR wd l ev i) (fun _ i => l.length - (intOf i).toNat)
      case atStart => exact ⟨0, 0, Nat.zero_le _, rfl, rfl, .inl ⟨rfl, rfl⟩⟩
      case round =>
        obtain ⟨k, e, hk, rfl, rfl, hc⟩ := hrel
        rcases hc with ⟨rfl, hall⟩ | ⟨rfl, hno⟩
        · by_cases hlt : k < l.length
          · obtain ⟨b, off, rfl, hc⟩ := ((unhide HI).below (unhide HB) (Nat.le_refl _)).nat hlt
            obtain ⟨x, hx⟩ : ∃ x, x = l[k] := ⟨_, rfl⟩
            rw [← hx] at hc
            cases hz : (x / 2 ^ wd != 0) with
            | true =>
              have HN : Hid (¬ l.all (okB wd) = true) := fun g => by
                have := List.all_eq_true.1 g l[k] (List.getElem_mem hlt)
                rw [← hx] at this
                unfold okB at this
                rw [hz] at this
                cases this
              clear hall hx
              go_wp2_with fail
              go_round
              case rel => exact ⟨k + 1, 1, by omega, by go_num, rfl, .inr ⟨rfl, unhide HN⟩⟩
              case measure => simp [intOf]; omega
            | false =>
              have HN : Hid ((l.take (k + 1)).all (okB wd) = true) := by
                show _ = _
                rw [List.take_succ_eq_append_getElem hlt, List.all_append, hall, ← hx]
                simp only [List.all_cons, List.all_nil, Bool.and_true, Bool.true_and]
                show (!(x / 2 ^ wd != 0)) = true
                rw [hz]; rfl
              clear hall hx
              go_wp2_with fail
              go_round
              case rel => exact ⟨k + 1, 0, by omega, by go_num, rfl, .inl ⟨rfl, unhide HN⟩⟩
              case measure => simp [intOf]; omega
          · have hk2 : k = l.length := by omega
            rw [hk2, List.take_length] at hall
            have HN : Hid (OE = 0) := (unhide HW2).1 hall
            have hnk : ¬ ((k : Int) < (l.length : Int)) := by omega
            clear hall hk2
            go_wp2_with fail
            go_ret
            exact ⟨ret_int (unhide HN).symm, unhide HB⟩
        · have HN : Hid (OE = 1) := (unhide HW2).2 hno
          clear hno
          by_cases hlt : k < l.length
          · go_wp2_with fail
            go_ret
            exact ⟨ret_int (unhide HN).symm, unhide HB⟩
          · have hnk : ¬ ((k : Int) < (l.length : Int)) := by omega
            go_wp2_with fail
            go_ret
            exact ⟨ret_int (unhide HN).symm, unhide HB⟩
    · have hL1 : (L == 0) = false := by simpa using hL
      have HN : Hid (OE = L) := (unhide HW).1 hL
      clear hL HW
      go_wp2_with fail
      go_loop [6, 7] (fun ev i => ev = .int .i64 L ∧ i = .int .i64 0) (fun _ _ => 0)
      case atStart => exact ⟨rfl, rfl⟩
      case round =>
        obtain ⟨rfl, rfl⟩ := hrel
        by_cases hlt : 0 < l.length
        · have hlt1 : (0 : Int) < (l.length : Int) := by omega
          go_wp2_with fail
          go_ret
          exact ⟨ret_int (unhide HN).symm, unhide HB⟩
        · have hlt1 : ¬ ((0 : Int) < (l.length : Int)) := by omega
          go_wp2_with fail
          go_ret
          exact ⟨ret_int (unhide HN).symm, unhide HB⟩

/-- Orders, in one. -/
theorem orders_any (w : World) (width : Int) (v : Value) (l : List Int) (h : Ints w.heap.size w v l) :
    Calls Try.prog 12 #[.int .i64 width, v] w fun e w' => ∃ r os, e = .returned (.tuple #[r, .int .i64 (ordE width l)]) ∧ OL w.heap.size w' r os ∧ (ordE width l ≠ 0 → os = []) ∧ (ordE width l = 0 → IsLeast l os.length ∧ (∀ o ∈ os, right o = true ∧ (o.length : Int) = width) ∧ ∀ x ∈ l, ∃ o ∈ os, coverB o x = true) ∧ Below w.heap.size w w' := by
  by_cases hl : ordE width l = 0
  · have hb : ¬ (width < 0 ∨ 8 < width) := fun g => by
      unfold ordE at hl
      rw [if_pos g] at hl
      cases hl
    obtain ⟨wd, rfl⟩ : ∃ wd : Nat, width = (wd : Int) := ⟨width.toNat, by omega⟩
    have hl2 := hl
    rw [ordE_nat (by omega)] at hl2
    refine (orders_ok w wd v l h (by omega) hl2).mono ?_
    rintro e w' ⟨r, os, rfl, h1, h2, h3, h4, h5⟩
    exact ⟨r, os, by rw [hl], h1, fun g => absurd hl g, fun _ => ⟨h2, fun o ho => ⟨(h3 o ho).1, by rw [(h3 o ho).2]⟩, h4⟩, h5⟩
  · refine (orders_no w width v l h hl).mono ?_
    rintro e w' ⟨rfl, rfl⟩
    exact ⟨_, [], rfl, OL.nil _ _, fun _ => rfl, fun g => absurd g hl, Below.refl _ _⟩
theorem ordE_look {width : Int} {l : List Int} (h : ordE width l = 0) : lookE 8 l = 0 := by
  have hb : ¬ (width < 0 ∨ 8 < width) := fun g => by
    unfold ordE at h
    rw [if_pos g] at h
    cases h
  obtain ⟨wd, rfl⟩ : ∃ wd : Nat, width = (wd : Int) := ⟨width.toNat, by omega⟩
  rw [ordE_nat (by omega), look_eight (by omega)] at h
  by_cases g : lookE 8 l = 0
  · exact g
  · rw [if_pos g] at h
    exact absurd h g
def S1R (n : Nat) (i : Value) : Prop := ∃ k : Nat, k ≤ n ∧ i = .int .i64 (k : Int)
theorem OL.later {base : Nat} {A B : World} {v : Value} {os : List (List Int)} (h : OL base A v os) (hb : Below A.heap.size A B) : OL base B v os := h.keeps (O := fun _ => False) (Keeps.of_below hb) (fun _ _ e => e)
/-- One of the orders. -/
theorem OL.at {base : Nat} {w : World} {a : Option Addr} {n c : Nat} {os : List (List Int)} (h : OL base w (.slice a n c) os) {k : Nat} (hk : k < os.length) : ∃ g u ua uc, a = some ⟨g, 0, none⟩ ∧ w.cell? ⟨g, k, none⟩ = some u ∧ u = .slice ua (os.getD k []).length uc ∧ Ints w.heap.size w u (os.getD k []) ∧ os.getD k [] ∈ os := by
  obtain ⟨vs, h1, h2⟩ := h
  obtain ⟨u, u1, u2, _⟩ := h2 k hk
  have hi := u2.intsS.ints
  obtain ⟨ua, uc, eu, _⟩ := id hi
  have hmem : os.getD k [] ∈ os := by
    rw [List.getD, List.getElem?_eq_getElem hk]
    exact List.getElem_mem _
  rcases h1.2 with ⟨e, e2⟩ | ⟨g, cap, cur, e, _⟩
  · omega
  · simp only [Value.slice.injEq] at e
    obtain ⟨rfl, rfl, rfl⟩ := e
    refine ⟨g, u, ua, uc, rfl, ?_, eu, hi, hmem⟩
    rw [World.ownsRow.cellAt h1 k (by omega)]
    exact u1

set_option maxRecDepth 100000 in
set_option maxHeartbeats 8000000 in
theorem serves_walk (w : World) (width : Int) (v : Value) (l : List Int) (h : Ints w.heap.size w v l) :
    Calls Try.prog 4 #[.int .i64 width, v] w fun e w' => e = .returned (.bool true) ∧ Below w.heap.size w w' := by
  have hor := orders_any w width v l h
  have HI := hide h
  obtain ⟨va, vc, rfl, _⟩ := id h
  have HOL := hide (ordE_look (width := width) (l := l))
  clear h
  go_enter Try.func4, Try.ntmps4
  go_wp2_with fail
  refine hor.mono ?_
  clear hor
  rintro e w1 ⟨r, os, rfl, hOL, hno, hyes, b1⟩
  have hI1 := ((unhide HI).below b1 (Nat.le_refl _)).mono b1.size
  have hwr := wrong_any w1 width _ l hI1
  obtain ⟨ra, rc, rfl⟩ := hOL.len
  have HE := hide (And.intro hOL (And.intro hno (And.intro hyes b1)))
  have HI1 := hide hI1
  clear hOL hno hyes b1 hI1
  generalize ordE width l = OE at hwr HE HOL
  go_wp2_with fail
  refine hwr.mono ?_
  clear hwr
  rintro e w2 ⟨rfl, b2⟩
  have hal := alive_any w2
  have HB2 := hide b2
  clear b2
  go_wp2_with fail
  refine hal.mono ?_
  clear hal
  rintro e w3 ⟨rfl, b3⟩
  obtain ⟨hOL, hno, hyes, b1⟩ := unhide HE
  have b13 := (unhide HB2).trans (b3.mono (unhide HB2).size)
  have b03 := b1.trans (b13.mono b1.size)
  by_cases hz : OE = 0
  · obtain ⟨y1, y2, y3⟩ := hyes hz
    have hrl := rleast_any w3 _ l ((((unhide HI1).below b13 (Nat.le_refl _))).mono b13.size)
    have hl8 := unhide HOL hz
    have hos : os.length ≤ 257 := by have := y1.le; have := (look_zero hl8 (Nat.le_refl _)).1; omega
    have HE3 := hide (And.intro (hOL.later b13) (And.intro y1 (And.intro y2 (And.intro y3 (And.intro b03 (And.intro hl8 ((unhide HI1).below b13 (Nat.le_refl _))))))))
    subst hz
    clear hOL hno hyes b1 b13 b03 b3 y1 y2 y3 hl8
    go_wp2_with fail
    refine hrl.mono ?_
    clear hrl
    rintro e w4 ⟨m, rfl, hm1, _, b4⟩
    obtain ⟨hOL, y1, y2, y3, b03, hl8, hI3⟩ := unhide HE3
    have hm : m = (os.length : Int) := (hm1 hl8 _ y1).symm
    subst hm
    have hOL4 := hOL.later b4
    have HE4 := hide (And.intro hOL4 (And.intro y2 (And.intro y3 (b03.trans (b4.mono b03.size)))))
    clear hOL y1 y2 y3 b03 hl8 hI3 hm1 b4 hOL4
    generalize lookE 8 l = L8
    go_wp2_with fail
    go_loop [46] (fun i => S1R os.length i) (fun i => os.length - (intOf i).toNat)
    case atStart => exact ⟨0, Nat.zero_le _, rfl⟩
    case round =>
      obtain ⟨k, hk, rfl⟩ := hrel
      obtain ⟨hOL4, y2, y3, b04⟩ := unhide HE4
      by_cases hlt : k < os.length
      · obtain ⟨g, u, ua, uc, rfl, hc, rfl, hi, hmem⟩ := hOL4.at hlt
        obtain ⟨z1, z2⟩ := y2 _ hmem
        have hrr := rright_any w4.heap.size w4 _ _ hi
        rw [z1] at hrr
        have hw1 : (((os.getD k []).length : Int) != width) = false := by rw [z2]; simp
        obtain ⟨n0, hn0⟩ : ∃ n0, n0 = (os.getD k []).length := ⟨_, rfl⟩
        rw [← hn0] at hrr hc hw1
        clear hOL4 y2 y3 b04 hi hmem z1 z2 hn0
        go_wp2_with fail
        refine hrr.mono ?_
        clear hrr
        rintro e w5 ⟨rfl, hw5⟩
        subst hw5
        go_wp2_with fail
        go_round
        case rel => exact ⟨k + 1, by omega, by go_num⟩
        case measure => simp [intOf]; omega
      · have hnk : ¬ ((k : Int) < (os.length : Int)) := by omega
        clear hOL4 y2 y3 b04
        go_wp2_with fail
        go_loop [62] (fun i => S1R l.length i) (fun i => l.length - (intOf i).toNat)
        case atStart => exact ⟨0, Nat.zero_le _, rfl⟩
        case round =>
          obtain ⟨q, hq, rfl⟩ := hrel
          obtain ⟨hOL4, y2, y3, b04⟩ := unhide HE4
          by_cases hlq : q < l.length
          · obtain ⟨b, off, rfl, hc⟩ := ((unhide HI).below b04 (Nat.le_refl _)).nat hlq
            obtain ⟨x, hx⟩ : ∃ x, x = l[q] := ⟨_, rfl⟩
            rw [← hx] at hc
            have hpk := rpick_any _ w4 _ os hOL4.list x
            rw [pick_some (y3 x (by rw [hx]; exact List.getElem_mem hlq))] at hpk
            generalize pickN os x = pn at hpk
            clear hOL4 y2 y3 b04 hx
            go_wp2_with fail
            refine hpk.mono ?_
            clear hpk
            rintro e w5 ⟨rfl, hw5⟩
            subst hw5
            go_wp2_with fail
            go_round
            case rel => exact ⟨q + 1, by omega, by go_num⟩
            case measure => simp [intOf]; omega
          · have hnq : ¬ ((q : Int) < (l.length : Int)) := by omega
            have HB := hide b04
            clear hOL4 y2 y3 b04
            go_wp2_with fail
            go_ret
            exact ⟨rfl, unhide HB⟩
  · have hz1 : (OE != 0) = true := by simpa using hz
    have hos : os.length = 0 := by rw [hno hz]; rfl
    have HB := hide b03
    rw [hos]
    clear hOL hno hyes b1 b13 b03 b3 hz hos
    go_wp2_with fail
    go_ret
    exact ⟨rfl, unhide HB⟩
end Go.Proofs.Ytclialdbaclpoaa
