/- Walks of Compare, Cmp, Head and Same, and of the document's. -/
import Derived.Test.YthcljhfankooaabGreatBRights
import Derived.BigQuiet
import Derived.Deep.QuietTactic
namespace Go.Proofs.YthcljhfankooaabGreat
open Go.RowKit

set_option maxRecDepth 100000 in
set_option maxHeartbeats 4000000 in
theorem nan_any (x : Int) (w : World) : Calls Tryz.prog 107 #[.int .i64 x] w fun e w' => e = .returned (.bool false) ∧ w' = w := by
  go_enter Tryz.func107, Tryz.ntmps107
  go_wp2
  go_ret
  exact ⟨ret_bool (by simp), rfl⟩

set_option maxRecDepth 100000 in
set_option maxHeartbeats 4000000 in
theorem compare_any (x y : Int) (w : World) : Calls Tryz.prog 79 #[.int .i64 x, .int .i64 y] w fun e w' => e = .returned (.int .i64 (cmpI x y)) ∧ w' = w := by
  by_cases h1 : x < y
  · have H : Hid (cmpI x y = -1) := if_pos h1
    go_enter Tryz.func79, Tryz.ntmps79
    go_wp2_with (go_at_call 107; refine (nan_any _ _).mono ?_; rintro e w' ⟨rfl, rfl⟩)
    go_ret
    exact ⟨ret_int (unhide H).symm, rfl⟩
  · by_cases h2 : y < x
    · have H : Hid (cmpI x y = 1) := by show _ = _; rw [cmpI, if_neg h1, if_pos h2]
      go_enter Tryz.func79, Tryz.ntmps79
      go_wp2_with (go_at_call 107; refine (nan_any _ _).mono ?_; rintro e w' ⟨rfl, rfl⟩)
      go_ret
      exact ⟨ret_int (unhide H).symm, rfl⟩
    · have H : Hid (cmpI x y = 0) := by show _ = _; rw [cmpI, if_neg h1, if_neg h2]
      go_enter Tryz.func79, Tryz.ntmps79
      go_wp2_with (go_at_call 107; refine (nan_any _ _).mono ?_; rintro e w' ⟨rfl, rfl⟩)
      go_ret
      exact ⟨ret_int (unhide H).symm, rfl⟩

/-- The cell of a slice at a column. -/
theorem Ints.at_ {B : Nat} {w : World} {a : Option Addr} {n cap : Nat} {l : List Int} (h : Ints B w (.slice a n cap) l) {x : Int} (h0 : 0 ≤ x) (h1 : x < (n : Int)) :
    n = l.length ∧ ∃ b off, a = some ⟨b, off, none⟩ ∧ b < B ∧ w.cell? ⟨b, off + x.toNat, none⟩ = some (.int .i64 (at_ l x)) := by
  obtain ⟨a', cap', e, _, _, h4⟩ := h
  simp only [Value.slice.injEq] at e
  obtain ⟨rfl, rfl, rfl⟩ := e
  refine ⟨rfl, ?_⟩
  have hx : l[x.toNat]? = some (YthcljhfankooaabGreat.at_ l x) := by
    have : x.toNat < l.length := by omega
    simp [YthcljhfankooaabGreat.at_, List.getD, List.getElem?_eq_getElem this]
  exact h4 _ _ hx

theorem Ints.nat {B : Nat} {w : World} {a : Option Addr} {n cap : Nat} {l : List Int} (h : Ints B w (.slice a n cap) l) {k : Nat} (hk : k < l.length) :
    ∃ b off, a = some ⟨b, off, none⟩ ∧ w.cell? ⟨b, off + k, none⟩ = some (.int .i64 l[k]) := by
  obtain ⟨a', cap', e, _, _, h4⟩ := h
  simp only [Value.slice.injEq] at e
  obtain ⟨rfl, rfl, rfl⟩ := e
  obtain ⟨b, off, e1, _, e2⟩ := h4 k l[k] (by simp [hk])
  exact ⟨b, off, e1, e2⟩

def SRel (w : World) (l m : List Int) (i : Value) (wr : World) : Prop := ∃ k : Nat, k ≤ l.length ∧ i = .int .i64 k ∧ l.take k = m.take k ∧ Below w.heap.size w wr
def sameB (l m : List Int) : Bool := decide (l = m)
theorem same_next {l m : List Int} {k : Nat} (h1 : k < l.length) (h2 : k < m.length) (h : l.take k = m.take k) (e : l[k] = m[k]) : l.take (k + 1) = m.take (k + 1) := by
  rw [List.take_succ_eq_append_getElem h1, List.take_succ_eq_append_getElem h2, h, e]

set_option maxRecDepth 100000 in
set_option maxHeartbeats 4000000 in
theorem same_any (B : Nat) (w : World) (u v : Value) (l m : List Int) (hB : B ≤ w.heap.size) (h : Ints B w u l) (h' : Ints B w v m) :
    Calls Tryz.prog 52 #[u, v] w fun e w' => e = .returned (.bool (sameB l m)) ∧ Below w.heap.size w w' := by
  have HL := hide h
  have HM := hide h'
  obtain ⟨a, cap, rfl, hc1, hc2, _⟩ := h
  obtain ⟨a2, cap2, rfl, hd1, hd2, _⟩ := h'
  by_cases hl : l.length = m.length
  · have hn : ((l.length : Int) != (m.length : Int)) = false := by simp [hl]
    have HE := hide hl
    clear hl
    go_enter Tryz.func52, Tryz.ntmps52
    go_wp2_with fail
    go_loopw [5] (fun i wr => SRel w l m i wr) (fun i _ => l.length - (intOf i).toNat)
    case atStart => exact ⟨0, Nat.zero_le _, rfl, rfl, Below.refl _ _⟩
    case round =>
      obtain ⟨k, hk, rfl, ht, hb⟩ := hrel
      have HT := hide ht
      have HB := hide hb
      clear ht
      by_cases hlt : k < l.length
      · have hlt2 : k < m.length := by have := unhide HE; omega
        obtain ⟨b1, o1, rfl, hx⟩ := ((unhide HL).below hb hB).nat hlt
        obtain ⟨b2, o2, rfl, hy⟩ := ((unhide HM).below hb hB).nat hlt2
        obtain ⟨x, hx1⟩ : ∃ x, x = l[k] := ⟨_, rfl⟩
        obtain ⟨y, hy1⟩ : ∃ y, y = m[k] := ⟨_, rfl⟩
        rw [← hx1] at hx
        rw [← hy1] at hy
        have HX := hide hx1
        have HY := hide hy1
        clear hx1 hy1 hb
        by_cases hxy : x = y
        · have hne : (x != y) = false := by simp [hxy]
          have HN := hide (same_next hlt hlt2 (unhide HT) (by rw [← unhide HX, ← unhide HY]; exact hxy))
          clear hxy
          go_wp2_with fail
          go_quiet (fail)
          go_wp2_with fail
          go_roundw
          case rel => exact ⟨k + 1, by omega, by go_num, unhide HN, below_drewN (unhide HB) _⟩
          case measure => simp [intOf]; omega
        · have hne : (x != y) = true := by simpa using hxy
          have H : Hid (sameB l m = false) := decide_eq_false (fun e => hxy (by rw [unhide HX, unhide HY]; simp [e]))
          clear hxy
          go_wp2_with fail
          go_quiet (fail)
          go_wp2_with fail
          go_ret
          exact ⟨ret_bool (unhide H).symm, below_drewN (unhide HB) _⟩
      · have hk2 : k = l.length := by omega
        subst hk2
        have H : Hid (sameB l m = true) := decide_eq_true (by have := unhide HT; rw [List.take_length, List.take_of_length_le (by have := unhide HE; omega)] at this; exact this)
        clear hb
        go_wp2_with fail
        go_ret
        exact ⟨ret_bool (unhide H).symm, unhide HB⟩
  · have hn : ((l.length : Int) != (m.length : Int)) = true := by simp; omega
    have H : Hid (sameB l m = false) := decide_eq_false (fun e => hl (by rw [e]))
    clear hl
    go_enter Tryz.func52, Tryz.ntmps52
    go_wp2_with fail
    go_ret
    exact ⟨ret_bool (unhide H).symm, Below.refl _ _⟩

/-- An order's column, and both tuples' numbers there. -/
theorem cols3 {B : Nat} {w : World} {a a2 a3 : Option Addr} {n n2 n3 cap cap2 cap3 : Nat} {o s t : List Int} (ho : Ints B w (.slice a n cap) o) (hs : Ints B w (.slice a2 n2 cap2) s) (ht : Ints B w (.slice a3 n3 cap3) t)
    (hf : fitN o [s.length, t.length] = true) {k : Nat} (hk : k < o.length) : ∃ b0 o0 b1 o1 b2 o2, ∃ x : Int, a = some ⟨b0, o0, none⟩ ∧ a2 = some ⟨b1, o1, none⟩ ∧ a3 = some ⟨b2, o2, none⟩ ∧ x = o[k] ∧ 0 ≤ x ∧ x < (s.length : Int) ∧ x < (t.length : Int) ∧
      w.cell? ⟨b0, o0 + k, none⟩ = some (.int .i64 x) ∧ w.cell? ⟨b1, o1 + x.toNat, none⟩ = some (.int .i64 (at_ s x)) ∧ w.cell? ⟨b2, o2 + x.toNat, none⟩ = some (.int .i64 (at_ t x)) := by
  obtain ⟨e1, e2, hr⟩ := fitN_two hf
  obtain ⟨h0, h1⟩ := (right_in hr).2 o[k] (List.getElem_mem hk)
  have n2e : n2 = s.length := by obtain ⟨_, _, e, _⟩ := hs; simp only [Value.slice.injEq] at e; exact e.2.1
  have n3e : n3 = t.length := by obtain ⟨_, _, e, _⟩ := ht; simp only [Value.slice.injEq] at e; exact e.2.1
  obtain ⟨b0, o0, g1, g2⟩ := ho.nat hk
  obtain ⟨_, b1, o1, g3, _, g4⟩ := hs.at_ h0 (by omega)
  obtain ⟨_, b2, o2, g5, _, g6⟩ := ht.at_ h0 (by omega)
  exact ⟨b0, o0, b1, o1, b2, o2, o[k], g1, g3, g5, rfl, h0, by omega, by omega, g2, g4, g6⟩

theorem two_below (w : World) (x y : Value) : Below w.heap.size w (w.alloc (.cells #[x, y] 32)) := (Below.refl _ w).alloc (Nat.le_refl _) _
theorem two_widths (w : World) (a a' : Option Addr) (m c n c' : Nat) : Widths (w.alloc (.cells #[.slice a m c, .slice a' n c'] 32)) w.heap.size [m, n] :=
  widths2 (a := a) (c := c) (a' := a') (c' := c') (by simp) (by simp)
theorem one_below (w : World) (x : Value) : Below w.heap.size w (w.alloc (.cells #[x] 32)) := (Below.refl _ w).alloc (Nat.le_refl _) _
theorem one_widths (w : World) (a : Option Addr) (m c : Nat) : Widths (w.alloc (.cells #[.slice a m c] 32)) w.heap.size [m] :=
  widths1 (a := a) (c := c) (by simp)

def QRel (w : World) (o s t : List Int) (i : Value) (wr : World) : Prop := ∃ k : Nat, k ≤ o.length ∧ i = .int .i64 k ∧ cmpTo o s t 0 = cmpTo o s t k ∧ Below w.heap.size w wr
theorem cmpA_fit {o s t : List Int} (h : fitN o [s.length, t.length] = true) : cmpA o s t = cmpTo o s t 0 := by rw [cmpA, if_pos h, cmpTo_zero]
theorem cmpA_not {o s t : List Int} (h : fitN o [s.length, t.length] = false) : cmpA o s t = 0 := by rw [cmpA, if_neg (by simp [h])]
theorem cmpTo_cmpI {o s t : List Int} {k : Nat} (hk : k < o.length) : cmpTo o s t k = if cmpI (at_ s o[k]) (at_ t o[k]) = 0 then cmpTo o s t (k + 1) else cmpI (at_ s o[k]) (at_ t o[k]) := by
  rw [cmpTo_step hk]
  unfold cmpI
  split
  · simp
  · split
    · simp
    · simp

set_option maxRecDepth 100000 in
set_option maxHeartbeats 4000000 in
theorem cmp_any (B : Nat) (w : World) (u v z : Value) (o s t : List Int) (hB : B ≤ w.heap.size) (ho : Ints B w u o) (hs : Ints B w v s) (ht : Ints B w z t) :
    Calls Tryz.prog 143 #[u, v, z] w fun e w' => e = .returned (.int .i64 (cmpA o s t)) ∧ Below w.heap.size w w' := by
  have HO := hide ho
  have HS := hide hs
  have HT := hide ht
  obtain ⟨a, cap, rfl, hc1, hc2, _⟩ := ho
  obtain ⟨a2, cap2, rfl, hd1, hd2, _⟩ := hs
  obtain ⟨a3, cap3, rfl, he1, he2, _⟩ := ht
  go_enter Tryz.func143, Tryz.ntmps143
  go_wp2_with fail
  have b1 := two_below w (.slice a2 s.length cap2) (.slice a3 t.length cap3)
  have hw2 := two_widths w a2 a3 s.length cap2 t.length cap3
  generalize w.alloc (.cells #[.slice a2 s.length cap2, .slice a3 t.length cap3] 32) = w1 at b1 hw2 ⊢
  refine (fit2_any B w1 _ o ((unhide HO).below b1 hB) w.heap.size s.length t.length hw2).mono ?_
  rintro e w' ⟨rfl, rfl⟩
  cases hf : fitN o [s.length, t.length] with
  | false =>
    have H := hide (cmpA_not hf)
    clear hf hw2
    go_wp2_with fail
    go_ret
    exact ⟨ret_int (unhide H).symm, b1⟩
  | true =>
    have HF := hide hf
    have B1 := hide b1
    clear hf hw2 b1
    go_wp2_with fail
    go_loopw [17] (fun i wr => QRel w o s t i wr) (fun i _ => o.length - (intOf i).toNat)
    case atStart => exact ⟨0, Nat.zero_le _, rfl, rfl, unhide B1⟩
    case round =>
      obtain ⟨k, hk, rfl, hq, hb⟩ := hrel
      have HQ := hide hq
      have HB := hide hb
      clear hq
      by_cases hlt : k < o.length
      · obtain ⟨b0, o0, b1, o1, b2, o2, x, rfl, rfl, rfl, hx, x0, x1, x2, y0, y1, y2⟩ := cols3 ((unhide HO).below hb hB) ((unhide HS).below hb hB) ((unhide HT).below hb hB) (unhide HF) hlt
        have HC := hide (cmpTo_cmpI (s := s) (t := t) hlt)
        rw [← hx] at HC
        clear hx hb
        generalize at_ s x = p at *
        generalize at_ t x = q at *
        go_wp2_with fail
        go_quiet ((go_at_call 79; exact Calls.quiet_of_same (compare_any _ _ _)))
        by_cases hz : cmpI p q = 0
        · have hz1 : (cmpI p q != 0) = false := by simp [hz]
          have HN : Hid (cmpTo o s t 0 = cmpTo o s t (k + 1)) := by show _ = _; rw [unhide HQ, unhide HC, if_pos hz]
          clear hz
          go_wp2_with fail
          go_roundw
          case rel => exact ⟨k + 1, by omega, by go_num, unhide HN, below_drewN (unhide HB) _⟩
          case measure => simp [intOf]; omega
        · have hz1 : (cmpI p q != 0) = true := by simpa using hz
          have HN : Hid (cmpA o s t = cmpI p q) := by show _ = _; rw [cmpA_fit (unhide HF), unhide HQ, unhide HC, if_neg hz]
          clear hz
          go_wp2_with fail
          go_ret
          exact ⟨ret_int (unhide HN).symm, below_drewN (unhide HB) _⟩
      · have hk2 : k = o.length := by omega
        subst hk2
        have HN : Hid (cmpA o s t = 0) := by show _ = _; rw [cmpA_fit (unhide HF), unhide HQ, cmpTo_end]
        clear hb
        go_wp2_with fail
        go_ret
        exact ⟨ret_int (unhide HN).symm, unhide HB⟩
end Go.Proofs.YthcljhfankooaabGreat
