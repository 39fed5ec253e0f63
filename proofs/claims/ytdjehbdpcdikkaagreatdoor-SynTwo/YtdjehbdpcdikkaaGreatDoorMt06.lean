/- Walks of words and names, the program's and the document's. Walks of the gaps: a line's end, a comment's length, and where no gap stands. Walks of the gaps: gapsEnd, and the document's gap. Plain arithmetic of the package num: what its operations come to, as functions on integers; no program stands in it. Plain facts on numbers' texts: which lists of bytes are a number's text, which number that is, and that texts and numbers lead back to one another; no program stands in it. Walks of num.Parse and what it calls: it answers the plain function of the text's bytes. -/
import Derived.Test.YtdjehbdpcdikkaaGreatDoorMt05
import Derived.Below
import Derived.RowKit
import Derived.Lib.Strings
import Derived.Lib.AtoiAll
import Derived.Test.YtdjehbdpcdikkaaGreatDoorChecked
import Derived.WalkKit
import Derived.ProofKit
namespace Go.Proofs.YtdjehbdpcdikkaaGreatDoor
open Go.RowKit

theorem at_is (s : ByteArray) (a : Int) (k : Nat) (t : ByteArray) (b : Bool) (ha : a = (k : Int)) (hb : pre t.data.toList (s.data.toList.drop k) = b) (hk : k ≤ s.size) (hs : s.size ≤ 140737488355328) (ht : t.size ≤ 1000) (w : World) :
    Calls Tryz.prog 76 #[.string s, .int .i64 a, .string t] w fun e w' => e = .returned (.bool b) ∧ w' = w := by
  subst ha hb
  exact at_any s k t hk hs ht w
theorem rword_is (s : ByteArray) (a : Int) (k n : Nat) (ha : a = (k : Int)) (hn : wdLen (s.data.toList.drop k) = n) (hk : k ≤ s.size) (hs : s.size ≤ 140737488355328) (w : World) :
    Calls Tryz.prog 77 #[.string s, .int .i64 a] w fun e w' => e = .returned (.int .i64 (n : Int)) ∧ w' = w := by
  subst ha hn
  exact rword_any s k hk hs w

theorem pre1 {c : UInt8} {r : Txt} : pre [c] r = true ↔ ∃ t, r = c :: t := by
  unfold pre Lib.hasPrefix
  cases r with
  | nil => simp
  | cons d u =>
    simp only [List.isPrefixOf, Bool.and_true, beq_iff_eq]
    constructor
    · rintro rfl; exact ⟨u, rfl⟩
    · rintro ⟨t, h⟩; injection h with h _; exact h.symm
theorem pre1_at {s : ByteArray} {k : Nat} {c : UInt8} (h : pre [c] (s.data.toList.drop k) = true) : ∃ hk : k < s.size, s[k] = c := by
  obtain ⟨t, ht⟩ := pre1.1 h
  by_cases hk : k < s.size
  · rw [drop_at s k hk] at ht
    exact ⟨hk, by injection ht⟩
  · rw [drop_end s k (by omega)] at ht
    cases ht

/-- How many bytes of words with points between, if a word begins there. -/
def rnm (r : Txt) : Nat := if wdLen r = 0 then 0 else nmLen r
def rnmAt (s : ByteArray) (k n : Nat) : Nat := if n = 0 then 0 else n + nmLen (s.data.toList.drop (k + n))
theorem rnm_start (s : ByteArray) (k : Nat) : rnm (s.data.toList.drop k) = rnmAt s k (wdLen (s.data.toList.drop k)) := by
  unfold rnm rnmAt
  split
  · rfl
  · rw [nm_wd (by omega), List.drop_drop]
theorem noW_start {s : ByteArray} {k : Nat} (h : ¬ wdLen (s.data.toList.drop k) = 0) : noW (s.data.toList.drop (k + wdLen (s.data.toList.drop k))) = true := by
  rw [← List.drop_drop]; exact noW_wd (by omega)
theorem rnm_go {s : ByteArray} {k n : Nat} (h0 : 0 < n) (hp : pre [46] (s.data.toList.drop (k + n)) = true) (hw : 0 < wdLen (s.data.toList.drop (k + n + 1))) :
    rnmAt s k n = rnmAt s k (n + (1 + wdLen (s.data.toList.drop (k + n + 1)))) ∧ noW (s.data.toList.drop (k + (n + (1 + wdLen (s.data.toList.drop (k + n + 1)))))) = true := by
  obtain ⟨hlt, hc⟩ := pre1_at hp
  have e : s.data.toList.drop (k + n) = 46 :: s.data.toList.drop (k + n + 1) := by rw [drop_at s _ hlt, hc]
  have e2 : k + (n + (1 + wdLen (s.data.toList.drop (k + n + 1)))) = (k + n + 1) + wdLen (s.data.toList.drop (k + n + 1)) := by omega
  unfold rnmAt
  rw [if_neg (by omega), if_neg (by omega), e, nm_go hw, e2, ← List.drop_drop (i := wdLen (s.data.toList.drop (k + n + 1))) (j := k + n + 1)]
  exact ⟨by omega, noW_wd hw⟩
theorem rnm_end {s : ByteArray} {k n : Nat} (hn : noW (s.data.toList.drop (k + n)) = true) (h : pre [46] (s.data.toList.drop (k + n)) = true → wdLen (s.data.toList.drop (k + n + 1)) = 0) : rnmAt s k n = n := by
  unfold rnmAt
  split
  · omega
  · rw [nm_end hn]; · omega
    intro t ht
    have hp : pre [46] (s.data.toList.drop (k + n)) = true := pre1.2 ⟨t, ht⟩
    obtain ⟨hlt, _⟩ := pre1_at hp
    have := h hp
    rw [drop_at s _ hlt] at ht
    injection ht with _ h2
    rw [← h2]; exact this
theorem wd_drop (s : ByteArray) (k : Nat) (hk : k ≤ s.size) : k + wdLen (s.data.toList.drop k) ≤ s.size := by
  have := wd_le (s.data.toList.drop k)
  rw [len_drop] at this
  omega

def RNm (s : ByteArray) (k n : Nat) : Prop := k + n ≤ s.size ∧ rnm (s.data.toList.drop k) = rnmAt s k n ∧ (n = 0 ∨ noW (s.data.toList.drop (k + n)) = true)

set_option maxHeartbeats 2000000 in
theorem rname_any (s : ByteArray) (k : Nat) (hk : k ≤ s.size) (hs : s.size ≤ 140737488355328) (w : World) :
    Calls Tryz.prog 42 #[.string s, .int .i64 (k : Int)] w fun e w' => e = .returned (.int .i64 (rnm (s.data.toList.drop k) : Int)) ∧ w' = w := by
  obtain ⟨n0, hn0⟩ : ∃ n, wdLen (s.data.toList.drop k) = n := ⟨_, rfl⟩
  have HB : Hid (RNm s k n0) := by
    refine hide ⟨by rw [← hn0]; exact wd_drop s k hk, by rw [← hn0]; exact rnm_start s k, ?_⟩
    by_cases h : n0 = 0
    · exact .inl h
    · exact .inr (by rw [← hn0]; exact noW_start (by rw [hn0]; exact h))
  have H0 := hide hn0
  clear hn0
  go_enter Tryz.func42, Tryz.ntmps42
  go_wp2_with (go_at_call 77; refine (rword_is s _ k n0 rfl (unhide H0) hk hs _).mono ?_; rintro e w' ⟨rfl, rfl⟩)
  go_loop [5] (fun i => ∃ n : Nat, i = .int .i64 (n : Int) ∧ Hid (RNm s k n)) (fun i => s.size - (intOf i).toNat)
  case atStart => exact ⟨n0, rfl, HB⟩
  case round =>
    obtain ⟨n, rfl, HH⟩ := hrel
    have hle := (unhide HH).1
    by_cases h0 : 0 < n
    · cases hp : pre [46] (s.data.toList.drop (k + n)) with
      | true =>
        obtain ⟨hlt, hc⟩ := pre1_at hp
        clear hc
        obtain ⟨m, hm⟩ : ∃ m, wdLen (s.data.toList.drop (k + n + 1)) = m := ⟨_, rfl⟩
        have HM := hide hm
        have hbd := wd_drop s (k + n + 1) (by omega)
        rw [hm] at hbd
        have HP := hide hp
        clear hm hp
        by_cases hw : 0 < m
        · go_wp2_with (first
            | (go_at_call 76; refine (at_is s _ (k + n) ⟨#[46]⟩ true (by omega) (unhide HP) (by omega) hs (by decide) _).mono ?_; rintro e w' ⟨rfl, rfl⟩)
            | (go_at_call 77; refine (rword_is s _ (k + n + 1) m (by omega) (unhide HM) (by omega) hs _).mono ?_; rintro e w' ⟨rfl, rfl⟩))
          go_round
          case rel =>
            have hh := unhide HH
            have hg := rnm_go h0 (unhide HP) (by rw [unhide HM]; exact hw)
            rw [unhide HM] at hg
            exact ⟨n + (1 + m), by go_num, hide ⟨by omega, hh.2.1.trans hg.1, .inr hg.2⟩⟩
          case measure => simp [intOf]; omega
        · go_wp2_with (first
            | (go_at_call 76; refine (at_is s _ (k + n) ⟨#[46]⟩ true (by omega) (unhide HP) (by omega) hs (by decide) _).mono ?_; rintro e w' ⟨rfl, rfl⟩)
            | (go_at_call 77; refine (rword_is s _ (k + n + 1) m (by omega) (unhide HM) (by omega) hs _).mono ?_; rintro e w' ⟨rfl, rfl⟩))
          go_ret
          have hh := unhide HH
          have hno : noW (s.data.toList.drop (k + n)) = true := by
            rcases hh.2.2 with h | h
            · omega
            · exact h
          exact ⟨ret_int (by rw [hh.2.1, rnm_end hno (fun _ => by rw [unhide HM]; omega)]), rfl⟩
      | false =>
        have HP := hide hp
        clear hp
        go_wp2_with (go_at_call 76; refine (at_is s _ (k + n) ⟨#[46]⟩ false (by omega) (unhide HP) (by omega) hs (by decide) _).mono ?_; rintro e w' ⟨rfl, rfl⟩)
        go_ret
        have hh := unhide HH
        have hno : noW (s.data.toList.drop (k + n)) = true := by
          rcases hh.2.2 with h | h
          · omega
          · exact h
        exact ⟨ret_int (by rw [hh.2.1, rnm_end hno (fun h => by rw [unhide HP] at h; cases h)]), rfl⟩
    · go_wp2
      go_ret
      have hh := unhide HH
      have e0 : n = 0 := by omega
      subst e0
      exact ⟨ret_int (by rw [hh.2.1]; rfl), rfl⟩

def nameP (l : Txt) : Bool := decide (l ≠ []) && decide (l.length ≤ 64) && decide (wdLen l ≠ 0) && decide (nmLen l = l.length)
theorem size_len (s : ByteArray) : s.size = s.data.toList.length := by rw [Array.length_toList]; rfl
theorem data_cons {s : ByteArray} (h : 0 < s.size) : s.data.toList = s[0] :: s.data.toList.drop 1 := by
  have := drop_at s 0 h
  rwa [List.drop_zero] at this
theorem empty_of {s : ByteArray} (h : ¬ 0 < s.size) : s = ⟨#[]⟩ := ByteArray.ext (Array.eq_empty_of_size_eq_zero (by have : s.size = s.data.size := rfl; omega))



def wordP (l : Txt) : Bool := decide (l ≠ []) && decide (wdLen l = l.length) && decide (l.length ≤ 64)
end Go.Proofs.YtdjehbdpcdikkaaGreatDoor

namespace Go.Proofs.YtdjehbdpcdikkaaGreatDoor
open Go.RowKit

theorem idx_ge (c : UInt8) : ∀ l : Txt, -1 ≤ Lib.indexByte l c
 | [] => by simp [Lib.indexByte]
 | d :: m => by
  have ih := idx_ge c m
  unfold Lib.indexByte; split
  · decide
  ·
   split
   · decide
   · omega
theorem ln_idx : ∀ l : Txt, (0 ≤ Lib.indexByte l 10 → (lnLen l : Int) = Lib.indexByte l 10) ∧ (¬ 0 ≤ Lib.indexByte l 10 → lnLen l = l.length)
 | [] => by simp [Lib.indexByte, lnLen]
 | c :: l => by
  have ih := ln_idx l
  have hg := idx_ge 10 l
  unfold Lib.indexByte lnLen
  by_cases h : c = 10
  · subst h; simp
  ·
   rw [if_neg (by simp [h]), if_neg h]
   by_cases hm : Lib.indexByte l 10 = -1
   ·
    rw [if_pos (by simp [hm])]
    have := ih.2 (by omega)
    exact ⟨fun h => absurd h (by decide), fun _ => by rw [this, List.length_cons]⟩
   ·
    rw [if_neg (by simp [hm])]
    have := ih.1 (by omega)
    exact ⟨fun _ => by omega, fun h => by omega⟩

set_option maxHeartbeats 1000000 in
theorem lineLength_any (s : ByteArray) (w : World) :
  Calls Tryz.prog 99 #[.string s] w fun e w' => e = .returned (.int .i64 (lnLen s.data.toList : Int)) ∧ w' = w := by
 obtain ⟨h1, h2⟩ := ln_idx s.data.toList
 by_cases h : 0 ≤ Lib.indexByte s.data.toList 10
 ·
  have H := hide (h1 h)
  clear h1 h2
  go_enter Tryz.func99, Tryz.ntmps99
  go_wp2_with (go_at_call 122; refine (Tryz.strings_IndexByte s 10 _).mono ?_; rintro e w' ⟨rfl, rfl⟩; rw [show (10 : Int).toNat.toUInt8 = 10 from rfl])
  go_ret
  exact ⟨ret_int (unhide H).symm, rfl⟩
 ·
  have H := hide (h2 h)
  clear h1 h2
  go_enter Tryz.func99, Tryz.ntmps99
  go_wp2_with (go_at_call 122; refine (Tryz.strings_IndexByte s 10 _).mono ?_; rintro e w' ⟨rfl, rfl⟩; rw [show (10 : Int).toNat.toUInt8 = 10 from rfl])
  go_ret
  exact ⟨ret_int (by rw [unhide H, ← size_len]), rfl⟩

theorem ce_idx : ∀ l : Txt, (cEnd l = none → Lib.index l [42, 47] = -1) ∧ (∀ n, cEnd l = some n → Lib.index l [42, 47] = (n : Int))
 | [] => ⟨fun _ => rfl, fun n h => by cases h⟩
 | c :: l => by
  have ih := ce_idx l
  unfold cEnd Lib.index
  have e : pre [42, 47] (c :: l) = ([42, 47] : Txt).isPrefixOf (c :: l) := rfl
  rw [e]
  by_cases hp : ([42, 47] : Txt).isPrefixOf (c :: l) = true
  ·
   rw [if_pos hp, if_pos hp]
   exact ⟨(fun h => by cases h), (fun n h => by cases h; rfl)⟩
  ·
   rw [if_neg hp, if_neg hp]
   cases hc : cEnd l with
   | none =>
    rw [ih.1 hc]
    exact ⟨fun _ => rfl, (fun n h => by cases h)⟩
   | some m =>
    rw [ih.2 m hc, if_neg (by rw [beq_iff_eq]; omega)]
    refine ⟨(fun h => by cases h), fun n h => ?_⟩
    have : m + 1 = n := by simpa using h
    omega
def cmV : Option Nat → Value
 | none => .tuple #[.int .i64 0, .bool false]
 | some n => .tuple #[.int .i64 ((n : Int) + 4), .bool true]

theorem ext_drop (s : ByteArray) (k : Nat) : (s.extract k s.size).data.toList = s.data.toList.drop k := by
 have : (s.extract k s.size).data = s.data.extract k s.size := by simp
 rw [this, Array.toList_extract]
 show (s.data.toList.drop k).take (s.size - k) = _
 exact List.take_of_length_le (by rw [len_drop]; exact Nat.le_refl _)
theorem ext_piece (s : ByteArray) (k n : Nat) : (s.extract k (k + n)).data.toList = (s.data.toList.drop k).take n := by
 have : (s.extract k (k + n)).data = s.data.extract k (k + n) := by simp
 rw [this, Array.toList_extract]
 simp [List.take_drop]
theorem bytes_of {s : ByteArray} {l : Txt} (h : s.data.toList = l) : s = ⟨l.toArray⟩ := by
 cases s with
 | mk d => subst h; rfl
theorem run_tail (s : ByteArray) (k : Nat) (a : Int) (ha : a = (k : Int)) (hk : k ≤ s.size) (w : World) :
  (Instr.slice 9 (.string s) (some (.int .i64 a)) none none).run Tryz.prog w = .ok (.string (s.extract k s.size)) w := by
 subst ha
 have := run_slice_string_l (P := Tryz.prog) w 9 s Tryz.underlying9 .i64 (k : Int) (by omega) (by omega)
 rwa [Int.toNat_natCast] at this
theorem run_piece (s : ByteArray) (k n : Nat) (a b : Int) (ha : a = (k : Int)) (hb : b = ((k + n : Nat) : Int)) (hk : k + n ≤ s.size) (w : World) :
  (Instr.slice 9 (.string s) (some (.int .i64 a)) (some (.int .i64 b)) none).run Tryz.prog w = .ok (.string (s.extract k (k + n))) w := by
 subst ha hb
 have := run_slice_string (P := Tryz.prog) w 9 s .i64 .i64 (k : Int) ((k + n : Nat) : Int) Tryz.underlying9 (by omega) (by omega) (by omega)
 rwa [Int.toNat_natCast, Int.toNat_natCast] at this

set_option maxHeartbeats 1000000 in
theorem commentLength_any (s : ByteArray) (m : Int) (h2 : 2 ≤ s.size) (hs : s.size ≤ 65536) (w : World) (hm : w.cell? ⟨2, 0, none⟩ = some (.int .i64 m)) :
  Calls Tryz.prog 100 #[.string s] w fun e w' => e = .returned (cmV (cEnd (s.data.toList.drop 2))) ∧ w' = w := by
 have hrun := run_tail s 2 2 rfl h2
 obtain ⟨u, hu⟩ : ∃ u, s.extract 2 s.size = u := ⟨_, rfl⟩
 have hul : u.data.toList = s.data.toList.drop 2 := by rw [← hu]; exact ext_drop s 2
 have hus : u.size < 4294967281 := by rw [size_len, hul, len_drop]; omega
 rw [hu] at hrun
 obtain ⟨i1, i2⟩ := ce_idx u.data.toList
 rw [← hul]
 clear hul hu
 have HM := hide hm
 clear hm
 cases hc : cEnd u.data.toList with
 | none =>
  have H := hide (i1 hc)
  clear i1 i2
  go_enter Tryz.func100, Tryz.ntmps100
  go_wp2_with (go_at_call 123; refine (Tryz.strings_Index u ⟨#[42, 47]⟩ m _ hus (unhide HM)).mono ?_; rintro e w' ⟨rfl, rfl⟩; rw [show Lib.index u.data.toList (⟨#[42, 47]⟩ : ByteArray).data.toList = -1 from unhide H])
  go_ret2
  exact ⟨rfl, rfl⟩
 | some n =>
  have H := hide (i2 n hc)
  have hn : n ≤ 65536 := by
   have := ce_le _ _ hc
   rw [← size_len] at this
   have : u.size ≤ s.size := by have := run_tail s 2 2 rfl h2 w; rw [hrun w] at this; injection this with this _; injection this with this; rw [this]; simp
   omega
  clear i1 i2
  go_enter Tryz.func100, Tryz.ntmps100
  go_wp2_with (go_at_call 123; refine (Tryz.strings_Index u ⟨#[42, 47]⟩ m _ hus (unhide HM)).mono ?_; rintro e w' ⟨rfl, rfl⟩; rw [show Lib.index u.data.toList (⟨#[42, 47]⟩ : ByteArray).data.toList = (n : Int) from unhide H])
  go_ret2
  exact ⟨by simp [cmV]; omega, rfl⟩
end Go.Proofs.YtdjehbdpcdikkaaGreatDoor

namespace Go.Proofs.YtdjehbdpcdikkaaGreatDoor
open Go.RowKit

theorem gap_blank {s : ByteArray} {m : Nat} (h : m < s.size) (hb : isB (bv s[m]) = true) : gapAt (s.data.toList.drop m) = .gap 1 := by
  rw [drop_at s m h, gap_cons, if_pos hb]
theorem gap_line {s : ByteArray} {m : Nat} (h : m < s.size) (hb : isB (bv s[m]) = false) (hp : pre [47, 47] (s.data.toList.drop m) = true) : gapAt (s.data.toList.drop m) = .gap (lnLen (s.data.toList.drop m)) := by
  rw [drop_at s m h] at hp ⊢
  rw [gap_cons, if_neg (by simp [hb]), if_pos hp]
theorem gap_comm {s : ByteArray} {m : Nat} (h : m < s.size) (hb : isB (bv s[m]) = false) (hp : pre [47, 47] (s.data.toList.drop m) = false) (hq : pre [47, 42] (s.data.toList.drop m) = true) :
    gapAt (s.data.toList.drop m) = cGap (s.data.toList.drop (m + 2)) := by
  rw [drop_at s m h] at hp hq ⊢
  rw [gap_cons, if_neg (by simp [hb]), if_neg (by simp [hp]), if_pos hq, List.drop_drop]
theorem gap_not {s : ByteArray} {m : Nat} (h : m < s.size) (hb : isB (bv s[m]) = false) (hp : pre [47, 47] (s.data.toList.drop m) = false) (hq : pre [47, 42] (s.data.toList.drop m) = false) :
    gapAt (s.data.toList.drop m) = .none := by
  rw [drop_at s m h] at hp hq ⊢
  rw [gap_cons, if_neg (by simp [hb]), if_neg (by simp [hp]), if_neg (by simp [hq])]
theorem pre_two {s : ByteArray} {m : Nat} {a b : UInt8} (h : pre [a, b] (s.data.toList.drop m) = true) : m + 2 ≤ s.size := by
  have := pre_len h
  rw [len_drop] at this
  simp only [List.length_cons, List.length_nil] at this
  omega

/-- From the k-th byte on there are gaps up to the m-th. -/
def Gone (s : ByteArray) (k m : Nat) : Prop := k ≤ m ∧ m ≤ s.size ∧ scan k (s.data.toList.drop k) = scan m (s.data.toList.drop m)
theorem Gone.step {s : ByteArray} {k m n : Nat} (h : Gone s k m) (hg : gapAt (s.data.toList.drop m) = .gap n) : Gone s k (m + n) ∧ 0 < n := by
  have hp := gap_pos hg
  rw [len_drop] at hp
  refine ⟨⟨by have := h.1; omega, by have := h.2.1; omega, ?_⟩, hp.1⟩
  rw [h.2.2, scan_gap hg, List.drop_drop]
/-- What gapsEnd answers. -/
def GapEnd (s : ByteArray) (k : Nat) (e : Ending) : Prop := ∃ m, Gone s k m ∧
  ((gapAt (s.data.toList.drop m) = .never ∧ e = .returned (.tuple #[.int .i64 0, .agg #[.int .i64 7, .int .i64 (m : Int)]])) ∨
   (gapAt (s.data.toList.drop m) = .none ∧ e = .returned (.tuple #[.int .i64 (m : Int), .agg #[.int .i64 0, .int .i64 0]])))

set_option maxHeartbeats 4000000 in
theorem gapsEnd_any (s : ByteArray) (k : Nat) (ml : Int) (hk : k ≤ s.size) (hs : s.size ≤ 65536) (w : World) (hm : w.cell? ⟨2, 0, none⟩ = some (.int .i64 ml)) :
    Calls Tryz.prog 72 #[.string s, .int .i64 (k : Int)] w fun e w' => GapEnd s k e ∧ Below w.heap.size w w' := by
  have HM := hide (show ∀ o, (w.alloc o).cell? ⟨2, 0, none⟩ = some (.int .i64 ml) from fun o => (((Below.refl w.heap.size w).alloc (Nat.le_refl _) o).cell (World.block_lt_of_cell? w _ hm)).trans hm)
  have HB := hide (show ∀ o, Below w.heap.size w (w.alloc o) from fun o => (Below.refl w.heap.size w).alloc (Nat.le_refl _) o)
  clear hm
  go_enter Tryz.func72, Tryz.ntmps72
  go_wp2
  go_loop [1] (fun i => ∃ m : Nat, i = .int .i64 (m : Int) ∧ Hid (Gone s k m)) (fun i => s.size - (intOf i).toNat)
  case atStart => exact ⟨k, rfl, hide ⟨Nat.le_refl _, hk, rfl⟩⟩
  case round =>
    obtain ⟨m, rfl, HH⟩ := hrel
    have hle := (unhide HH).2.1
    by_cases hlt : m < s.size
    · have hrun := run_tail s m (m : Int) rfl hle
      obtain ⟨u, hu⟩ : ∃ u, s.extract m s.size = u := ⟨_, rfl⟩
      have hul : u.data.toList = s.data.toList.drop m := by rw [← hu]; exact ext_drop s m
      rw [hu] at hrun
      have HUL := hide hul
      clear hu hul
      cases hb : isB (s[m].toNat : Int) with
      | true =>
        go_wp2_with (go_at_call 97; refine (isBlank_any _ _).mono ?_; rintro e w' ⟨rfl, rfl⟩; rw [hb])
        go_round
        case rel => exact ⟨m + 1, by go_num, hide ((unhide HH).step (gap_blank hlt hb)).1⟩
        case measure => simp [intOf]; omega
      | false =>
        cases hp : pre [47, 47] (s.data.toList.drop m) with
        | true =>
          have HP := hide (show Lib.hasPrefix u.data.toList (⟨#[47, 47]⟩ : ByteArray).data.toList = true by rw [unhide HUL]; exact hp)
          have HG := hide (gap_line hlt hb hp)
          have hst := (unhide HH).step (unhide HG)
          have hln : lnLen u.data.toList = lnLen (s.data.toList.drop m) := by rw [unhide HUL]
          obtain ⟨n, hn⟩ : ∃ n, lnLen (s.data.toList.drop m) = n := ⟨_, rfl⟩
          rw [hn] at hln hst
          have HST := hide hst
          have hbd := hst.1.2.1
          have hpos := hst.2
          clear hp hn hst
          go_wp2_with (first
            | (go_at_call 97; refine (isBlank_any _ _).mono ?_; rintro e w' ⟨rfl, rfl⟩; rw [hb])
            | (go_at_call 98; refine (Tryz.strings_HasPrefix u ⟨#[47, 47]⟩ _).mono ?_; rintro e w' ⟨rfl, rfl⟩; rw [unhide HP])
            | (go_at_call 99; refine (lineLength_any u _).mono ?_; rintro e w' ⟨rfl, rfl⟩; rw [hln]))
          go_round
          case rel => exact ⟨m + n, by go_num, hide (unhide HST).1⟩
          case measure => simp [intOf]; omega
        | false =>
          have HP := hide (show Lib.hasPrefix u.data.toList (⟨#[47, 47]⟩ : ByteArray).data.toList = false by rw [unhide HUL]; exact hp)
          cases hq : pre [47, 42] (s.data.toList.drop m) with
          | false =>
            have HQ := hide (show Lib.hasPrefix u.data.toList (⟨#[47, 42]⟩ : ByteArray).data.toList = false by rw [unhide HUL]; exact hq)
            have HG := hide (gap_not hlt hb hp hq)
            clear hp hq
            go_wp2_with (first
              | (go_at_call 97; refine (isBlank_any _ _).mono ?_; rintro e w' ⟨rfl, rfl⟩; rw [hb])
              | (go_at_call 98; refine (Tryz.strings_HasPrefix u _ _).mono ?_; rintro e w' ⟨rfl, rfl⟩; first | rw [unhide HP] | rw [unhide HQ]))
            refine bodyPost_ret (v := .tuple #[.int .i64 (m : Int), .agg #[.int .i64 0, .int .i64 0]]) (by simp [results, Tryz.results72, go_sem]) rfl ?_
            exact ⟨⟨m, unhide HH, .inr ⟨unhide HG, rfl⟩⟩, unhide HB _⟩
          | true =>
            have HQ := hide (show Lib.hasPrefix u.data.toList (⟨#[47, 42]⟩ : ByteArray).data.toList = true by rw [unhide HUL]; exact hq)
            have HG := hide (gap_comm hlt hb hp hq)
            have h2 := pre_two hq
            have hus : u.size = s.size - m := by rw [size_len, unhide HUL, len_drop]
            have hd2 : u.data.toList.drop 2 = s.data.toList.drop (m + 2) := by rw [unhide HUL, List.drop_drop]
            have HD2 := hide hd2
            have hu2 : 2 ≤ u.size := by omega
            have hu3 : u.size ≤ 65536 := by omega
            clear hp hq hd2 hus
            cases hc : cEnd (s.data.toList.drop (m + 2)) with
            | none =>
              have HC := hide hc
              clear hc
              go_wp2_with (first
                | (go_at_call 97; refine (isBlank_any _ _).mono ?_; rintro e w' ⟨rfl, rfl⟩; rw [hb])
                | (go_at_call 98; refine (Tryz.strings_HasPrefix u _ _).mono ?_; rintro e w' ⟨rfl, rfl⟩; first | rw [unhide HP] | rw [unhide HQ])
                | (go_at_call 100; refine (commentLength_any u ml hu2 hu3 _ (unhide HM _)).mono ?_; rintro e w' ⟨rfl, rfl⟩; rw [unhide HD2, unhide HC]; unfold cmV))
              refine bodyPost_ret (v := .tuple #[.int .i64 0, .agg #[.int .i64 7, .int .i64 (m : Int)]]) (by simp [results, Tryz.results72, go_sem]) rfl ?_
              exact ⟨⟨m, unhide HH, .inl ⟨by rw [unhide HG]; unfold cGap; rw [unhide HC], rfl⟩⟩, unhide HB _⟩
            | some n =>
              have HC := hide hc
              have hg2 : gapAt (s.data.toList.drop m) = .gap (n + 4) := by rw [unhide HG]; unfold cGap; rw [hc]
              have hst := (unhide HH).step hg2
              have HST := hide hst
              have hbd := hst.1.2.1
              clear hc hg2 hst
              go_wp2_with (first
                | (go_at_call 97; refine (isBlank_any _ _).mono ?_; rintro e w' ⟨rfl, rfl⟩; rw [hb])
                | (go_at_call 98; refine (Tryz.strings_HasPrefix u _ _).mono ?_; rintro e w' ⟨rfl, rfl⟩; first | rw [unhide HP] | rw [unhide HQ])
                | (go_at_call 100; refine (commentLength_any u ml hu2 hu3 _ (unhide HM _)).mono ?_; rintro e w' ⟨rfl, rfl⟩; rw [unhide HD2, unhide HC]; unfold cmV))
              go_round
              case rel => exact ⟨m + (n + 4), by go_num, hide (unhide HST).1⟩
              case measure => simp [intOf]; omega
    · go_wp2
      refine bodyPost_ret (v := .tuple #[.int .i64 (m : Int), .agg #[.int .i64 0, .int .i64 0]]) (by simp [results, Tryz.results72, go_sem]) rfl ?_
      exact ⟨⟨m, unhide HH, .inr ⟨by rw [drop_end s m (by omega)]; rfl, rfl⟩⟩, unhide HB _⟩
end Go.Proofs.YtdjehbdpcdikkaaGreatDoor

namespace Go.Proofs.YtdjehbdpcdikkaaGreatDoor.Num
open Go.RowKit

/-- A number of 64 bits. -/
def Fits (n : Int) : Prop := -9223372036854775808 ≤ n ∧ n ≤ 9223372036854775807

def addP (a b : Int) : Int × Int := if -9223372036854775808 ≤ a + b ∧ a + b ≤ 9223372036854775807 then (a + b, 0) else (0, 8)
def subP (a b : Int) : Int × Int := if -9223372036854775808 ≤ a - b ∧ a - b ≤ 9223372036854775807 then (a - b, 0) else (0, 8)
def mulP (a b : Int) : Int × Int := if -9223372036854775808 ≤ a * b ∧ a * b ≤ 9223372036854775807 then (a * b, 0) else (0, 8)
def divP (a b : Int) : Int × Int := if b = 0 then (0, 9) else if a = -9223372036854775808 ∧ b = -1 then (0, 8) else (a.tdiv b, 0)
def remP (a b : Int) : Int × Int := if b = 0 then (0, 9) else (a.tmod b, 0)

theorem ret2 {a b : Int} {p : Int × Int} (h : p = (a, b)) : Ending.returned (.tuple #[.int .i64 a, .int .i64 b]) = .returned (.tuple #[.int .i64 p.1, .int .i64 p.2]) := by
 subst h; rfl

theorem mulP_in {a b : Int} (h : Fits (a * b)) : mulP a b = (a * b, 0) := by unfold mulP; exact if_pos h
theorem zero_mul (b : Int) : mulP 0 b = (0, 0) := by
 rw [mulP_in (by unfold Fits; omega)]; simp
end Go.Proofs.YtdjehbdpcdikkaaGreatDoor.Num

namespace Go.Proofs.YtdjehbdpcdikkaaGreatDoor.Num
open Go.RowKit

def dig (c : UInt8) : Bool := decide (48 ≤ c.toNat) && decide (c.toNat ≤ 57)
def valFrom : Nat → List UInt8 → Nat
 | acc, [] => acc
 | acc, c :: r => valFrom (acc * 10 + (c.toNat - 48)) r
def trim (l : List UInt8) : List UInt8 := Lib.trimPrefix l [45]
def isNeg (l : List UInt8) : Bool := l.head? == some 45
def numForm (l : List UInt8) : Bool := l == [48] || (!(trim l).isEmpty && (trim l).head? != some 48 && (trim l).all dig)
def numVal (l : List UInt8) : Int := if isNeg l = true then -(valFrom 0 (trim l) : Int) else (valFrom 0 (trim l) : Int)
def parseP (l : List UInt8) : Int × Int :=
 if numForm l = true then (if -9223372036854775808 ≤ numVal l ∧ numVal l ≤ 9223372036854775807 then (numVal l, 0) else (0, 8)) else (0, 7)

theorem dig_iff {c : UInt8} : dig c = true ↔ 48 ≤ c.toNat ∧ c.toNat ≤ 57 := by simp [dig]

theorem valFrom_le : ∀ (l : List UInt8) (acc : Nat), acc ≤ valFrom acc l
 | [], acc => Nat.le_refl _
 | x :: r, acc => by
  have := valFrom_le r (acc * 10 + (x.toNat - 48))
  have h2 : acc ≤ acc * 10 + (x.toNat - 48) := by omega
  exact Nat.le_trans h2 this

theorem trim_cases (l : List UInt8) : (isNeg l = true ∧ l = 45 :: trim l) ∨ (isNeg l = false ∧ trim l = l) := by
 unfold isNeg trim Lib.trimPrefix Lib.hasPrefix
 cases l with
 | nil => right; simp
 | cons c r =>
  by_cases h : c = 45
  · subst h; left; simp
  ·
   right
   have h2 : ¬ 45 = c := fun e => h e.symm
   simp [h, h2]

theorem form_zero : numForm [48] = true := by decide
theorem form_trim {l : List UInt8} (h : numForm l = true) : (trim l).all dig = true ∧ trim l ≠ [] := by
 unfold numForm at h
 simp only [Bool.or_eq_true, Bool.and_eq_true, beq_iff_eq] at h
 rcases h with rfl | ⟨⟨h1, _⟩, h3⟩
 · exact ⟨by decide, by decide⟩
 · exact ⟨h3, fun e => by rw [e] at h1; simp at h1⟩

theorem parseUint10_dig (l : List UInt8) : ∀ (acc : Nat), l.all dig = true → acc < 18446744073709551616 →
  Lib.parseUint10 acc l = if valFrom acc l < 18446744073709551616 then .ok (valFrom acc l) else .range := by
 induction l with
 | nil =>
  intro acc _ ha
  have e : valFrom acc [] = acc := rfl
  rw [e, if_pos ha]
  rfl
 | cons c r ih =>
  intro acc h ha
  simp only [List.all_cons, Bool.and_eq_true] at h
  have hc := dig_iff.1 h.1
  have hm := valFrom_le r (acc * 10 + (c.toNat - 48))
  have e : valFrom acc (c :: r) = valFrom (acc * 10 + (c.toNat - 48)) r := rfl
  rw [e, Lib.parseUint10, if_pos hc]
  by_cases h1 : 1844674407370955162 ≤ acc
  · rw [if_pos h1, if_neg (by omega)]
  ·
   rw [if_neg h1]
   by_cases h2 : 18446744073709551616 ≤ acc * 10 + (c.toNat - 48)
   · rw [if_pos h2, if_neg (by omega)]
   ·
    rw [if_neg h2]
    exact ih _ h.2 (by omega)

theorem atoi_form {l : List UInt8} (h : numForm l = true) :
  (Fits (numVal l) → Lib.atoiAll l = .ok (numVal l)) ∧ (¬ Fits (numVal l) → Lib.atoiAll l = .range) := by
 obtain ⟨hd, hne⟩ := form_trim h
 have hp := parseUint10_dig (trim l) 0 hd (by omega)
 have hmag : Lib.parseMag (trim l) = if valFrom 0 (trim l) < 18446744073709551616 then .ok (valFrom 0 (trim l)) else .range := by
  unfold Lib.parseMag; rw [if_neg hne]; exact hp
 rcases trim_cases l with ⟨hn, hl⟩ | ⟨hn, hl⟩
 ·
  generalize htd : trim l = d at *
  unfold numVal Fits
  rw [hn, htd, if_pos rfl]
  generalize valFrom 0 d = v at *
  have e : Lib.atoiAll l = match Lib.parseMag d with
   | .ok u => if 9223372036854775808 < u then .range else .ok (-(u : Int))
   | x => x.rec (fun u => .ok (u : Int)) (Lib.atoiAll []) .range := by
   rw [hl]; unfold Lib.atoiAll
   simp
   cases Lib.parseMag d <;> simp
  rw [e, hmag]
  by_cases h1 : v < 18446744073709551616
  ·
   rw [if_pos h1]
   by_cases h2 : 9223372036854775808 < v
   · exact ⟨fun hf => absurd hf (by omega), fun _ => show (if 9223372036854775808 < v then Lib.NumEnd.range else .ok (-(v : Int))) = .range from if_pos h2⟩
   · exact ⟨fun _ => show (if 9223372036854775808 < v then Lib.NumEnd.range else .ok (-(v : Int))) = .ok (-(v : Int)) from if_neg h2, fun hf => absurd hf (by omega)⟩
  ·
   rw [if_neg h1]
   exact ⟨fun hf => absurd hf (by omega), fun _ => rfl⟩
 ·
  rw [hl] at hd hne hmag
  unfold numVal Fits
  rw [hn, hl, if_neg (by simp)]
  generalize hv : valFrom 0 l = v at *
  cases l with
  | nil => exact absurd rfl hne
  | cons c r =>
   have hc := dig_iff.1 (by simpa using (List.all_eq_true.1 hd) c (by simp) : dig c = true)
   have h45 : ¬ c.toNat = 45 := by omega
   have h43 : ¬ (c.toNat = 43 ∨ c.toNat = 45) := by omega
   have e : Lib.atoiAll (c :: r) = match Lib.parseMag (c :: r) with
    | .ok u => if 9223372036854775808 ≤ u then .range else .ok (u : Int)
    | x => x.rec (fun u => .ok (u : Int)) (Lib.atoiAll []) .range := by
    unfold Lib.atoiAll
    simp only [if_neg h43]
    cases Lib.parseMag (c :: r) <;> simp [h45]
   rw [e, hmag]
   by_cases h1 : v < 18446744073709551616
   ·
    rw [if_pos h1]
    by_cases h2 : 9223372036854775808 ≤ v
    · exact ⟨fun hf => absurd hf (by omega), fun _ => show (if 9223372036854775808 ≤ v then Lib.NumEnd.range else .ok (v : Int)) = .range from if_pos h2⟩
    · exact ⟨fun _ => show (if 9223372036854775808 ≤ v then Lib.NumEnd.range else .ok (v : Int)) = .ok (v : Int) from if_neg h2, fun hf => absurd hf (by omega)⟩
   ·
    rw [if_neg h1]
    exact ⟨fun hf => absurd hf (by omega), fun _ => rfl⟩

theorem parse_form {l : List UInt8} (h : numForm l = false) : parseP l = (0, 7) := by unfold parseP; rw [if_neg (by simp [h])]
theorem parse_in {l : List UInt8} (h : numForm l = true) (hf : Fits (numVal l)) : parseP l = (numVal l, 0) := by unfold parseP; rw [if_pos h]; exact if_pos hf
theorem parse_out {l : List UInt8} (h : numForm l = true) (hf : ¬ Fits (numVal l)) : parseP l = (0, 8) := by unfold parseP; rw [if_pos h]; exact if_neg hf

/-! ### There and back -/
end Go.Proofs.YtdjehbdpcdikkaaGreatDoor.Num

namespace Go.Proofs.YtdjehbdpcdikkaaGreatDoor.Num
open Go.ChangeShapes Go.WideShapes Go.ChangeAt Go.RowKit

theorem take_snoc (s : ByteArray) (k : Nat) (h : k < s.size) : s.data.toList.take (k + 1) = s.data.toList.take k ++ [s[k]] := by
 rw [List.take_succ_eq_append_getElem (by simpa using h)]; rfl
theorem ret_bool {a b : Bool} (h : a = b) : Ending.returned (.bool a) = .returned (.bool b) := by rw [h]
/-- 'All are digits', closed to the walk. -/
def allDig (l : List UInt8) : Bool := l.all dig
theorem all_take {s : ByteArray} (h : allDig (s.data.toList.take s.size) = true) : allDig s.data.toList = true := by
 have e : s.data.toList.take s.size = s.data.toList := List.take_of_length_le (by rw [Array.length_toList]; exact Nat.le_refl _)
 rwa [e] at h
theorem all_snoc {l : List UInt8} {c : UInt8} (h : allDig l = true) (h1 : 48 ≤ (c.toNat : Int)) (h2 : (c.toNat : Int) ≤ 57) : allDig (l ++ [c]) = true := by
 unfold allDig at *
 rw [List.all_append, h]
 simp [dig]
 omega
theorem all_bad {s : ByteArray} {k : Nat} (hk : k < s.size) (h : ¬ (48 ≤ (s[k].toNat : Int) ∧ (s[k].toNat : Int) ≤ 57)) : allDig s.data.toList = false := by
 rw [Bool.eq_false_iff]
 intro ha
 have := dig_iff.1 (List.all_eq_true.1 ha s[k] (by
  have : s[k] = s.data.toList[k]'(by simpa using hk) := rfl
  rw [this]; exact List.getElem_mem _))
 omega

set_option maxHeartbeats 400000 in
theorem allDigits_any (s : ByteArray) (w : World) (hs : s.size ≤ maxLen) :
  Calls Tryz.prog 177 #[.string s] w fun e w' => e = .returned (.bool (allDig s.data.toList)) ∧ w' = w := by
 unfold maxLen at hs
 go_enter Tryz.func177, Tryz.ntmps177
 go_wp2
 go_loop [6] (fun i => ∃ k : Nat, k ≤ s.size ∧ i = .int .i64 k ∧ Hid (allDig (s.data.toList.take k) = true)) (fun i => s.size - (intOf i).toNat)
 case atStart => exact ⟨0, Nat.zero_le _, rfl, rfl⟩
 case round =>
  obtain ⟨k, hk, rfl, hd⟩ := hrel
  by_cases hlt : k < s.size
  ·
   have hts : Hid (s.data.toList.take (k + 1) = s.data.toList.take k ++ [s[k]]) := take_snoc s k hlt
   have hbad : Hid (¬ (48 ≤ (s[k].toNat : Int) ∧ (s[k].toNat : Int) ≤ 57) → allDig s.data.toList = false) := all_bad hlt
   go_wp2
   ·
    go_ret
    exact ⟨ret_bool (hbad.out (by omega)).symm, rfl⟩
   ·
    go_round
    case rel => exact ⟨k + 1, by omega, by go_num, by show allDig _ = true; rw [hts.out]; exact all_snoc hd.out (by omega) (by omega)⟩
    case measure => simp [intOf]; omega
   ·
    go_ret
    exact ⟨ret_bool (hbad.out (by omega)).symm, rfl⟩
  ·
   go_wp2
   go_ret
   refine ⟨ret_bool ?_, rfl⟩
   have : k = s.size := by omega
   subst this
   rw [all_take hd.out]

theorem size_list (l : List UInt8) : (⟨l.toArray⟩ : ByteArray).size = l.length := by simp [ByteArray.size]

theorem form_nil {l : List UInt8} (h0 : ¬ l = [48]) (h : trim l = []) : numForm l = false := by
 unfold numForm; rw [h]; simp [h0]
theorem form_cons0 {l r : List UInt8} (h0 : ¬ l = [48]) (h : trim l = 48 :: r) : numForm l = false := by
 unfold numForm; rw [h]; simp [h0]
theorem form_cons {l r : List UInt8} {c : UInt8} (h0 : ¬ l = [48]) (h : trim l = c :: r) (hc : ¬ c = 48) : numForm l = allDig (c :: r) := by
 have e1 : (l == [48]) = false := beq_eq_false_iff_ne.2 h0
 have e2 : ((some c : Option UInt8) != some 48) = true := bne_iff_ne.2 fun e => hc (Option.some.inj e)
 unfold numForm allDig
 rw [h]
 simp only [List.isEmpty_cons, List.head?_cons, e1, e2]
 simp
theorem trim_le (l : List UInt8) : (trim l).length ≤ l.length := by
 rcases trim_cases l with ⟨_, h⟩ | ⟨_, h⟩
 ·
  have := congrArg List.length h
  simp at this; omega
 · rw [h]; exact Nat.le_refl _
theorem not48 {c : UInt8} (h : ¬ c = 48) : ¬ (c.toNat : Int) = 48 := fun e => h (UInt8.toNat_inj.1 (by
 have : c.toNat = 48 := by omega
 rw [this]; rfl))

set_option maxHeartbeats 400000 in
theorem isText_any (s : ByteArray) (w : World) (hs : s.size ≤ maxLen) :
  Calls Tryz.prog 147 #[.string s] w fun e w' => e = .returned (.bool (numForm s.data.toList)) ∧ w' = w := by
 by_cases h0 : s.data.toList = [48]
 ·
  have e0 : (s.toList == [48]) = true := by rw [Lib.toList_data, h0]; rfl
  have H : Hid (numForm s.data.toList = true) := by rw [h0]; exact form_zero
  clear h0
  go_enter Tryz.func147, Tryz.ntmps147
  go_wp2
  go_ret
  exact ⟨ret_bool H.out.symm, rfl⟩
 ·
  have e0 : (s.toList == [48]) = false := by rw [Lib.toList_data, beq_eq_false_iff_ne]; exact h0
  cases ht : trim s.data.toList with
  | nil =>
   have H : Hid (numForm s.data.toList = false) := form_nil h0 ht
   have ht' : Lib.trimPrefix s.data.toList [45] = [] := ht
   clear h0 ht
   go_enter Tryz.func147, Tryz.ntmps147
   go_wp2_with (go_at_call 176; refine (Tryz.strings_TrimPrefix _ _ _).mono ?_; rintro e w' ⟨rfl, rfl⟩)
   go_ret
   exact ⟨ret_bool H.out.symm, rfl⟩
  | cons c r =>
   have ht' : Lib.trimPrefix s.data.toList [45] = c :: r := ht
   by_cases hc : c = 48
   ·
    have H : Hid (numForm s.data.toList = false) := by subst hc; exact form_cons0 h0 ht
    subst hc
    clear h0 ht
    go_enter Tryz.func147, Tryz.ntmps147
    go_wp2_with (go_at_call 176; refine (Tryz.strings_TrimPrefix _ _ _).mono ?_; rintro e w' ⟨rfl, rfl⟩)
    go_ret
    exact ⟨ret_bool H.out.symm, rfl⟩
   ·
    have H : Hid (numForm s.data.toList = allDig (c :: r)) := form_cons h0 ht hc
    have hlen : (⟨(c :: r).toArray⟩ : ByteArray).size ≤ maxLen := by
     have := trim_le s.data.toList
     rw [ht] at this
     rw [size_list]
     have e : s.size = s.data.toList.length := Lib.size_eq s
     omega
    have h48 := not48 hc
    clear h0 ht hc
    go_enter Tryz.func147, Tryz.ntmps147
    go_wp2_with (first
     | (go_at_call 176; refine (Tryz.strings_TrimPrefix _ _ _).mono ?_; rintro e w' ⟨rfl, rfl⟩)
     | (go_at_call 177; refine (allDigits_any ⟨(c :: r).toArray⟩ _ hlen).mono ?_; rintro e w' ⟨rfl, rfl⟩))
    go_ret
    refine ⟨ret_bool ?_, rfl⟩
    rw [H.out]
    show ((c.toNat : Int) != 48 && allDig (c :: r)) = allDig (c :: r)
    rw [bne_iff_ne.2 h48]
    rfl

set_option maxHeartbeats 400000 in
theorem parse_any (s : ByteArray) (w : World) (hlim : s.size ≤ 281474976710656) {t1 : TypeId} {p1 : Value}
  (hv1 : w.var? Tryz.prog "strconv.ErrRange" = some #[.iface t1 p1]) :
  Calls Tryz.prog 129 #[.string s] w fun e w' => e = .returned (.tuple #[.int .i64 (parseP s.data.toList).1, .int .i64 (parseP s.data.toList).2]) ∧ Below w.heap.size w w' := by
 have hm : s.size ≤ maxLen := by unfold maxLen; omega
 have V1 : Hid (w.var? Tryz.prog "strconv.ErrRange" = some #[.iface t1 p1]) := hv1
 clear hv1
 cases hf : numForm s.data.toList with
 | false =>
  have H : Hid (parseP s.data.toList = (0, 7)) := parse_form hf
  go_enter Tryz.func129, Tryz.ntmps129
  go_wp2_with (go_at_call 147; refine (isText_any _ _ hm).mono ?_; rintro e w' ⟨rfl, rfl⟩)
  go_ret2
  exact ⟨ret2 H.out, Below.refl _ _⟩
 | true =>
  by_cases hr : Fits (numVal s.data.toList)
  ·
   have H : Hid (parseP s.data.toList = (numVal s.data.toList, 0)) := parse_in hf hr
   have A : Hid (Lib.atoiAll s.data.toList = .ok (numVal s.data.toList)) := (atoi_form hf).1 hr
   clear hr
   go_enter Tryz.func129, Tryz.ntmps129
   go_wp2_with (first
    | (go_at_call 147; refine (isText_any _ _ hm).mono ?_; rintro e w' ⟨rfl, rfl⟩)
    | (go_at_call 148; refine (Tryz.atoi_ok s (by omega) _ A.out _).mono ?_; rintro e w1 ⟨rfl, hw⟩))
   go_ret2
   exact ⟨ret2 H.out, hw⟩
  ·
   have H : Hid (parseP s.data.toList = (0, 8)) := parse_out hf hr
   have A : Hid (Lib.atoiAll s.data.toList = .range) := (atoi_form hf).2 hr
   clear hr
   go_enter Tryz.func129, Tryz.ntmps129
   go_wp2_with (first
    | (go_at_call 147; refine (isText_any _ _ hm).mono ?_; rintro e w' ⟨rfl, rfl⟩)
    | (go_at_call 148; refine (Tryz.atoi_range s hlim A.out _ _ _ V1.out).mono ?_; rintro e w1 ⟨⟨N, rfl⟩, hw⟩))
   go_ret2
   exact ⟨ret2 H.out, hw⟩
end Go.Proofs.YtdjehbdpcdikkaaGreatDoor.Num
