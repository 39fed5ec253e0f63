/- Walks of words and names, the program's and the document's. -/
import Derived.Test.YtbekkpfbjafagaaDoorLxc
import Derived.Test.YtbekkpfbjafagaaDoorShelfL
namespace Go.Proofs.YtbekkpfbjafagaaDoor
open Go.RowKit

theorem at_is (s : ByteArray) (a : Int) (k : Nat) (t : ByteArray) (b : Bool) (ha : a = (k : Int)) (hb : pre t.data.toList (s.data.toList.drop k) = b) (hk : k ≤ s.size) (hs : s.size ≤ 140737488355328) (ht : t.size ≤ 1000) (w : World) :
    Calls Tryd.prog 39 #[.string s, .int .i64 a, .string t] w fun e w' => e = .returned (.bool b) ∧ w' = w := by
  subst ha hb
  exact at_any s k t hk hs ht w
theorem rword_is (s : ByteArray) (a : Int) (k n : Nat) (ha : a = (k : Int)) (hn : wdLen (s.data.toList.drop k) = n) (hk : k ≤ s.size) (hs : s.size ≤ 140737488355328) (w : World) :
    Calls Tryd.prog 27 #[.string s, .int .i64 a] w fun e w' => e = .returned (.int .i64 (n : Int)) ∧ w' = w := by
  subst ha hn
  exact rword_any s k hk hs w

theorem pre1 {c : UInt8} {r : Txt} : pre [c] r = true ↔ ∃ t, r = c :: t := by
  unfold pre Lib.hasPrefix
  cases r with
  | nil => simp
  | cons d u =>
    simp only [List.isPrefixOf, Bool.and_true, beq_iff_eq]
    constructor
    · rintro rfl; exact ⟨u, rfl⟩
    · rintro ⟨t, h⟩; injection h with h _; exact h.symm
theorem pre1_at {s : ByteArray} {k : Nat} {c : UInt8} (h : pre [c] (s.data.toList.drop k) = true) : ∃ hk : k < s.size, s[k] = c := by
  obtain ⟨t, ht⟩ := pre1.1 h
  by_cases hk : k < s.size
  · rw [drop_at s k hk] at ht
    exact ⟨hk, by injection ht⟩
  · rw [drop_end s k (by omega)] at ht
    cases ht

/-- How many bytes of words with points between, if a word begins there. -/
def rnm (r : Txt) : Nat := if wdLen r = 0 then 0 else nmLen r
def rnmAt (s : ByteArray) (k n : Nat) : Nat := if n = 0 then 0 else n + nmLen (s.data.toList.drop (k + n))
theorem rnm_start (s : ByteArray) (k : Nat) : rnm (s.data.toList.drop k) = rnmAt s k (wdLen (s.data.toList.drop k)) := by
  unfold rnm rnmAt
  split
  · rfl
  · rw [nm_wd (by omega), List.drop_drop]
theorem noW_start {s : ByteArray} {k : Nat} (h : ¬ wdLen (s.data.toList.drop k) = 0) : noW (s.data.toList.drop (k + wdLen (s.data.toList.drop k))) = true := by
  rw [← List.drop_drop]; exact noW_wd (by omega)
theorem rnm_go {s : ByteArray} {k n : Nat} (h0 : 0 < n) (hp : pre [46] (s.data.toList.drop (k + n)) = true) (hw : 0 < wdLen (s.data.toList.drop (k + n + 1))) :
    rnmAt s k n = rnmAt s k (n + (1 + wdLen (s.data.toList.drop (k + n + 1)))) ∧ noW (s.data.toList.drop (k + (n + (1 + wdLen (s.data.toList.drop (k + n + 1)))))) = true := by
  obtain ⟨hlt, hc⟩ := pre1_at hp
  have e : s.data.toList.drop (k + n) = 46 :: s.data.toList.drop (k + n + 1) := by rw [drop_at s _ hlt, hc]
  have e2 : k + (n + (1 + wdLen (s.data.toList.drop (k + n + 1)))) = (k + n + 1) + wdLen (s.data.toList.drop (k + n + 1)) := by omega
  unfold rnmAt
  rw [if_neg (by omega), if_neg (by omega), e, nm_go hw, e2, ← List.drop_drop (i := wdLen (s.data.toList.drop (k + n + 1))) (j := k + n + 1)]
  exact ⟨by omega, noW_wd hw⟩
theorem rnm_end {s : ByteArray} {k n : Nat} (hn : noW (s.data.toList.drop (k + n)) = true) (h : pre [46] (s.data.toList.drop (k + n)) = true → wdLen (s.data.toList.drop (k + n + 1)) = 0) : rnmAt s k n = n := by
  unfold rnmAt
  split
  · omega
  · rw [nm_end hn]; · omega
    intro t ht
    have hp : pre [46] (s.data.toList.drop (k + n)) = true := pre1.2 ⟨t, ht⟩
    obtain ⟨hlt, _⟩ := pre1_at hp
    have := h hp
    rw [drop_at s _ hlt] at ht
    injection ht with _ h2
    rw [← h2]; exact this
theorem wd_drop (s : ByteArray) (k : Nat) (hk : k ≤ s.size) : k + wdLen (s.data.toList.drop k) ≤ s.size := by
  have := wd_le (s.data.toList.drop k)
  rw [len_drop] at this
  omega

def RNm (s : ByteArray) (k n : Nat) : Prop := k + n ≤ s.size ∧ rnm (s.data.toList.drop k) = rnmAt s k n ∧ (n = 0 ∨ noW (s.data.toList.drop (k + n)) = true)

set_option maxHeartbeats 2000000 in
theorem rname_any (s : ByteArray) (k : Nat) (hk : k ≤ s.size) (hs : s.size ≤ 140737488355328) (w : World) :
    Calls Tryd.prog 21 #[.string s, .int .i64 (k : Int)] w fun e w' => e = .returned (.int .i64 (rnm (s.data.toList.drop k) : Int)) ∧ w' = w := by
  obtain ⟨n0, hn0⟩ : ∃ n, wdLen (s.data.toList.drop k) = n := ⟨_, rfl⟩
  have HB : Hid (RNm s k n0) := by
    refine hide ⟨by rw [← hn0]; exact wd_drop s k hk, by rw [← hn0]; exact rnm_start s k, ?_⟩
    by_cases h : n0 = 0
    · exact .inl h
    · exact .inr (by rw [← hn0]; exact noW_start (by rw [hn0]; exact h))
  have H0 := hide hn0
  clear hn0
  go_enter Tryd.func21, Tryd.ntmps21
  go_wp2_with (go_at_call 27; refine (rword_is s _ k n0 rfl (unhide H0) hk hs _).mono ?_; rintro e w' ⟨rfl, rfl⟩)
  go_loop [5] (fun i => ∃ n : Nat, i = .int .i64 (n : Int) ∧ Hid (RNm s k n)) (fun i => s.size - (intOf i).toNat)
  case atStart => exact ⟨n0, rfl, HB⟩
  case round =>
    obtain ⟨n, rfl, HH⟩ := hrel
    have hle := (unhide HH).1
    by_cases h0 : 0 < n
    · cases hp : pre [46] (s.data.toList.drop (k + n)) with
      | true =>
        obtain ⟨hlt, hc⟩ := pre1_at hp
        clear hc
        obtain ⟨m, hm⟩ : ∃ m, wdLen (s.data.toList.drop (k + n + 1)) = m := ⟨_, rfl⟩
        have HM := hide hm
        have hbd := wd_drop s (k + n + 1) (by omega)
        rw [hm] at hbd
        have HP := hide hp
        clear hm hp
        by_cases hw : 0 < m
        · go_wp2_with (first
            | (go_at_call 39; refine (at_is s _ (k + n) ⟨#[46]⟩ true (by omega) (unhide HP) (by omega) hs (by decide) _).mono ?_; rintro e w' ⟨rfl, rfl⟩)
            | (go_at_call 27; refine (rword_is s _ (k + n + 1) m (by omega) (unhide HM) (by omega) hs _).mono ?_; rintro e w' ⟨rfl, rfl⟩))
          go_round
          case rel =>
            have hh := unhide HH
            have hg := rnm_go h0 (unhide HP) (by rw [unhide HM]; exact hw)
            rw [unhide HM] at hg
            exact ⟨n + (1 + m), by go_num, hide ⟨by omega, hh.2.1.trans hg.1, .inr hg.2⟩⟩
          case measure => simp [intOf]; omega
        · go_wp2_with (first
            | (go_at_call 39; refine (at_is s _ (k + n) ⟨#[46]⟩ true (by omega) (unhide HP) (by omega) hs (by decide) _).mono ?_; rintro e w' ⟨rfl, rfl⟩)
            | (go_at_call 27; refine (rword_is s _ (k + n + 1) m (by omega) (unhide HM) (by omega) hs _).mono ?_; rintro e w' ⟨rfl, rfl⟩))
          go_ret
          have hh := unhide HH
          have hno : noW (s.data.toList.drop (k + n)) = true := by
            rcases hh.2.2 with h | h
            · omega
            · exact h
          exact ⟨ret_int (by rw [hh.2.1, rnm_end hno (fun _ => by rw [unhide HM]; omega)]), rfl⟩
      | false =>
        have HP := hide hp
        clear hp
        go_wp2_with (go_at_call 39; refine (at_is s _ (k + n) ⟨#[46]⟩ false (by omega) (unhide HP) (by omega) hs (by decide) _).mono ?_; rintro e w' ⟨rfl, rfl⟩)
        go_ret
        have hh := unhide HH
        have hno : noW (s.data.toList.drop (k + n)) = true := by
          rcases hh.2.2 with h | h
          · omega
          · exact h
        exact ⟨ret_int (by rw [hh.2.1, rnm_end hno (fun h => by rw [unhide HP] at h; cases h)]), rfl⟩
    · go_wp2
      go_ret
      have hh := unhide HH
      have e0 : n = 0 := by omega
      subst e0
      exact ⟨ret_int (by rw [hh.2.1]; rfl), rfl⟩

def nameP (l : Txt) : Bool := decide (l ≠ []) && decide (l.length ≤ 64) && decide (wdLen l ≠ 0) && decide (nmLen l = l.length)
theorem nm_at0 (s : ByteArray) (hs : s.size ≤ 140737488355328) (w : World) :
    Calls Tryd.prog 29 #[.string s, .int .i64 0] w fun e w' => e = .returned (.int .i64 ((nmLen s.data.toList : Nat) : Int)) ∧ w' = w := by
  have := nameEnd_any s 0 (Nat.zero_le _) hs w
  rw [List.drop_zero, Nat.zero_add] at this
  exact this
theorem size_len (s : ByteArray) : s.size = s.data.toList.length := by rw [Array.length_toList]; rfl
theorem data_cons {s : ByteArray} (h : 0 < s.size) : s.data.toList = s[0] :: s.data.toList.drop 1 := by
  have := drop_at s 0 h
  rwa [List.drop_zero] at this
theorem empty_of {s : ByteArray} (h : ¬ 0 < s.size) : s = ⟨#[]⟩ := ByteArray.ext (Array.eq_empty_of_size_eq_zero (by have : s.size = s.data.size := rfl; omega))

set_option maxHeartbeats 1000000 in
theorem name_any (s : ByteArray) (hs : s.size ≤ 140737488355328) (w : World) :
    Calls Tryd.prog 15 #[.string s] w fun e w' => e = .returned (.bool (nameP s.data.toList)) ∧ w' = w := by
  by_cases h0 : 0 < s.size
  · have hne : s.toList.isEmpty = false := by rw [Lib.toList_data, data_cons h0]; rfl
    have hc : (decide (s.data.toList ≠ [])) = true := by rw [data_cons h0]; rfl
    have hw : (decide (wdLen s.data.toList ≠ 0)) = isL (s[0].toNat : Int) := by
      rw [data_cons h0, wd_cons]
      cases hl : isL (s[0].toNat : Int) with
      | true => rw [if_pos (show isL (bv s[0]) = true from hl)]; simp
      | false => rw [if_neg (by rw [show bv s[0] = (s[0].toNat : Int) from rfl, hl]; simp)]; simp
    have H := hide (show nameP s.data.toList = (decide (s.size ≤ 64) && isL (s[0].toNat : Int) && decide (nmLen s.data.toList = s.size)) by
      unfold nameP; rw [hc, hw, ← size_len, Bool.true_and])
    clear hc hw
    go_enter Tryd.func15, Tryd.ntmps15
    by_cases h64 : s.size ≤ 64
    · cases hl : isL (s[0].toNat : Int) with
      | true =>
        go_wp2_with (first
          | (go_at_call 28; refine (begins_any _ _).mono ?_; rintro e w' ⟨rfl, rfl⟩; rw [hl])
          | (go_at_call 29; refine (nm_at0 s hs _).mono ?_; rintro e w' ⟨rfl, rfl⟩))
        go_ret
        refine ⟨ret_bool ?_, rfl⟩
        rw [unhide H, hl, decide_eq_true h64, Bool.eq_iff_iff]
        simp <;> omega
      | false =>
        go_wp2_with (go_at_call 28; refine (begins_any _ _).mono ?_; rintro e w' ⟨rfl, rfl⟩; rw [hl])
        go_ret
        exact ⟨ret_bool (by rw [unhide H, hl]; simp), rfl⟩
    · go_wp2
      go_ret
      exact ⟨ret_bool (by rw [unhide H, decide_eq_false h64]; rfl), rfl⟩
  · have e := empty_of h0
    subst e
    go_enter Tryd.func15, Tryd.ntmps15
    go_wp2
    go_ret
    exact ⟨rfl, rfl⟩

theorem rn_at0 (s : ByteArray) (hs : s.size ≤ 140737488355328) (w : World) :
    Calls Tryd.prog 21 #[.string s, .int .i64 0] w fun e w' => e = .returned (.int .i64 (rnm s.data.toList : Int)) ∧ w' = w := by
  have := rname_any s 0 (Nat.zero_le _) hs w
  rw [List.drop_zero] at this
  exact this
theorem rw_at0 (s : ByteArray) (hs : s.size ≤ 140737488355328) (w : World) :
    Calls Tryd.prog 27 #[.string s, .int .i64 0] w fun e w' => e = .returned (.int .i64 (wdLen s.data.toList : Int)) ∧ w' = w := by
  have := rword_any s 0 (Nat.zero_le _) hs w
  rw [List.drop_zero] at this
  exact this
theorem nameP_r {l : Txt} (h : l ≠ []) : nameP l = (decide (rnm l = l.length) && decide (l.length ≤ 64)) := by
  have hl : 0 < l.length := List.length_pos_iff.2 h
  unfold nameP rnm
  rw [decide_eq_true h, Bool.true_and, Bool.eq_iff_iff]
  by_cases hw : wdLen l = 0
  · rw [if_pos hw]; simp [hw]; omega
  · rw [if_neg hw]; simp [hw, and_comm]
set_option maxHeartbeats 1000000 in
theorem rName_any (s : ByteArray) (hs : s.size ≤ 140737488355328) (w : World) :
    Calls Tryd.prog 16 #[.string s] w fun e w' => e = .returned (.bool (nameP s.data.toList)) ∧ w' = w := by
  by_cases h0 : 0 < s.size
  · have hne : s.toList.isEmpty = false := by rw [Lib.toList_data, data_cons h0]; rfl
    have H := hide (show nameP s.data.toList = (decide (rnm s.data.toList = s.size) && decide (s.size ≤ 64)) by
      rw [nameP_r (by rw [data_cons h0]; simp), ← size_len])
    go_enter Tryd.func16, Tryd.ntmps16
    by_cases he : rnm s.data.toList = s.size
    · have he2 : ((rnm s.data.toList : Int) == (s.size : Int)) = true := by rw [beq_iff_eq, he]
      have HE := hide he
      clear he
      go_wp2_with (go_at_call 21; refine (rn_at0 s hs _).mono ?_; rintro e w' ⟨rfl, rfl⟩)
      go_ret
      refine ⟨ret_bool ?_, rfl⟩
      rw [unhide H, decide_eq_true (unhide HE), Bool.true_and, Bool.eq_iff_iff]
      simp <;> omega
    · have he2 : ((rnm s.data.toList : Int) == (s.size : Int)) = false := by rw [beq_eq_false_iff_ne]; omega
      have HE := hide he
      clear he
      go_wp2_with (go_at_call 21; refine (rn_at0 s hs _).mono ?_; rintro e w' ⟨rfl, rfl⟩)
      go_ret
      exact ⟨ret_bool (by rw [unhide H, decide_eq_false (unhide HE)]; rfl), rfl⟩
  · have e := empty_of h0
    subst e
    go_enter Tryd.func16, Tryd.ntmps16
    go_wp2
    go_ret
    exact ⟨rfl, rfl⟩

def wordP (l : Txt) : Bool := decide (l ≠ []) && decide (wdLen l = l.length) && decide (l.length ≤ 64)
set_option maxHeartbeats 1000000 in
theorem rWord_any (s : ByteArray) (hs : s.size ≤ 140737488355328) (w : World) :
    Calls Tryd.prog 14 #[.string s] w fun e w' => e = .returned (.bool (wordP s.data.toList)) ∧ w' = w := by
  by_cases h0 : 0 < s.size
  · have hne : s.toList.isEmpty = false := by rw [Lib.toList_data, data_cons h0]; rfl
    have H := hide (show wordP s.data.toList = (decide (wdLen s.data.toList = s.size) && decide (s.size ≤ 64)) by
      unfold wordP; rw [decide_eq_true (by rw [data_cons h0]; simp), ← size_len, Bool.true_and])
    go_enter Tryd.func14, Tryd.ntmps14
    by_cases he : wdLen s.data.toList = s.size
    · have he2 : ((wdLen s.data.toList : Int) == (s.size : Int)) = true := by rw [beq_iff_eq, he]
      have HE := hide he
      clear he
      go_wp2_with (go_at_call 27; refine (rw_at0 s hs _).mono ?_; rintro e w' ⟨rfl, rfl⟩)
      go_ret
      refine ⟨ret_bool ?_, rfl⟩
      rw [unhide H, decide_eq_true (unhide HE), Bool.true_and, Bool.eq_iff_iff]
      simp <;> omega
    · have he2 : ((wdLen s.data.toList : Int) == (s.size : Int)) = false := by rw [beq_eq_false_iff_ne]; omega
      have HE := hide he
      clear he
      go_wp2_with (go_at_call 27; refine (rw_at0 s hs _).mono ?_; rintro e w' ⟨rfl, rfl⟩)
      go_ret
      exact ⟨ret_bool (by rw [unhide H, decide_eq_false (unhide HE)]; rfl), rfl⟩
  · have e := empty_of h0
    subst e
    go_enter Tryd.func14, Tryd.ntmps14
    go_wp2
    go_ret
    exact ⟨rfl, rfl⟩

theorem idx_mem (c : UInt8) : ∀ l : Txt, 0 ≤ Lib.indexByte l c ↔ c ∈ l
  | [] => by simp [Lib.indexByte]
  | b :: l => by
    unfold Lib.indexByte
    by_cases h : b = c
    · subst h; simp
    · rw [if_neg (by simp [h])]
      have ih := idx_mem c l
      have h2 : ¬ c = b := fun e => h e.symm
      by_cases hm : Lib.indexByte l c = -1
      · rw [if_pos (by simp [hm])]
        have : ¬ c ∈ l := fun hc => by have := ih.2 hc; omega
        simp [this, h2]
      · rw [if_neg (by simp [hm])]
        have hge : -1 ≤ Lib.indexByte l c := by
          clear ih hm h h2
          induction l with
          | nil => simp [Lib.indexByte]
          | cons d m ih => unfold Lib.indexByte; split; · decide
                           · split
                             · decide
                             · omega
        have h0 : 0 ≤ Lib.indexByte l c := by omega
        have := ih.1 h0
        simp [this]; omega
theorem nm_noW {r : Txt} (h : noW r = true) (h2 : nmLen r ≠ 0) : ∃ t, r = 46 :: t := by
  cases r with
  | nil => exact absurd rfl h2
  | cons c t =>
    by_cases hc : c = 46
    · exact ⟨t, by rw [hc]⟩
    · exact absurd (nm_stop (by simpa [noW] using h) (fun _ _ _ e => absurd e hc)) h2
theorem wcn_all : ∀ l : Txt, wcn l = l.length → ∀ c ∈ l, inW (bv c) = true
  | [], _, _, h => by cases h
  | d :: l, hl, c, hc => by
    unfold wcn at hl
    split at hl
    · rename_i hd
      rcases List.mem_cons.1 hc with rfl | hc
      · exact hd
      · exact wcn_all l (by simp only [List.length_cons] at hl; omega) c hc
    · simp at hl
theorem wd_all {l : Txt} (hl : wdLen l = l.length) : ∀ c ∈ l, inW (bv c) = true := by
  cases l with
  | nil => intro c h; cases h
  | cons d t =>
    rw [wd_cons] at hl
    split at hl
    · rename_i hd
      intro c hc
      rcases List.mem_cons.1 hc with rfl | hc
      · exact inW_L hd
      · exact wcn_all t (by simp only [List.length_cons] at hl; omega) c hc
    · simp at hl
theorem word_eq (l : Txt) : wordP l = (nameP l && !decide (0 ≤ Lib.indexByte l 46)) := by
  by_cases hne : l = []
  · subst hne; rfl
  · have hlen : 0 < l.length := List.length_pos_iff.2 hne
    rw [Bool.eq_iff_iff]
    unfold wordP nameP
    simp only [Bool.and_eq_true, decide_eq_true_eq, Bool.not_eq_true', decide_eq_false_iff_not]
    rw [idx_mem]
    constructor
    · rintro ⟨⟨h1, h2⟩, h3⟩
      have hw : 0 < wdLen l := by omega
      have e := nm_wd hw
      rw [h2, List.drop_of_length_le (Nat.le_refl _)] at e
      exact ⟨⟨⟨⟨h1, h3⟩, by omega⟩, e⟩, fun hm => by have := wd_all h2 46 hm; rw [inW46] at this; cases this⟩
    · rintro ⟨⟨⟨⟨h1, h3⟩, h4⟩, h5⟩, h6⟩
      refine ⟨⟨h1, ?_⟩, h3⟩
      have hw : 0 < wdLen l := by omega
      have e := nm_wd hw
      by_cases hz : nmLen (l.drop (wdLen l)) = 0
      · omega
      · obtain ⟨t, ht⟩ := nm_noW (noW_wd hw) hz
        exact absurd (List.mem_of_mem_drop (i := wdLen l) (by rw [ht]; simp)) h6

set_option maxHeartbeats 1000000 in
theorem word_any (s : ByteArray) (hs : s.size ≤ 140737488355328) (w : World) :
    Calls Tryd.prog 13 #[.string s] w fun e w' => e = .returned (.bool (wordP s.data.toList)) ∧ w' = w := by
  have H := hide (word_eq s.data.toList)
  cases hn : nameP s.data.toList with
  | true =>
    go_enter Tryd.func13, Tryd.ntmps13
    go_wp2_with (first
      | (go_at_call 15; refine (name_any s hs _).mono ?_; rintro e w' ⟨rfl, rfl⟩; rw [hn])
      | (go_at_call 26; refine (Tryd.strings_Contains_one s 46 _).mono ?_; rintro e w' ⟨rfl, rfl⟩))
    go_ret
    refine ⟨ret_bool ?_, rfl⟩
    rw [unhide H, hn, Bool.eq_iff_iff]
    simp
  | false =>
    go_enter Tryd.func13, Tryd.ntmps13
    go_wp2_with (go_at_call 15; refine (name_any s hs _).mono ?_; rintro e w' ⟨rfl, rfl⟩; rw [hn])
    go_ret
    exact ⟨ret_bool (by rw [unhide H, hn]; rfl), rfl⟩
end Go.Proofs.YtbekkpfbjafagaaDoor
