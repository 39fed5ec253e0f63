/- Walks of the gaps: a line's end, a comment's length, and where no gap stands. Walks of the gaps: gapsEnd, and the document's gap. Plain arithmetic of the package num: what its operations come to, as functions on integers; no program stands in it. Plain facts on numbers' texts: which lists of bytes are a number's text, which number that is, and that texts and numbers lead back to one another; no program stands in it. -/
import Derived.Test.YtcdobniommnflaaGreatDoorMf05
import Derived.Below
import Derived.RowKit
import Derived.Lib.Strings
import Derived.Lib.AtoiAll
namespace Go.Proofs.YtcdobniommnflaaGreatDoor
open Go.RowKit

theorem idx_ge (c : UInt8) : ∀ l : Txt, -1 ≤ Lib.indexByte l c
  | [] => by simp [Lib.indexByte]
  | d :: m => by
    have ih := idx_ge c m
    unfold Lib.indexByte; split
    · decide
    · split
      · decide
      · omega
theorem ln_idx : ∀ l : Txt, (0 ≤ Lib.indexByte l 10 → (lnLen l : Int) = Lib.indexByte l 10) ∧ (¬ 0 ≤ Lib.indexByte l 10 → lnLen l = l.length)
  | [] => by simp [Lib.indexByte, lnLen]
  | c :: l => by
    have ih := ln_idx l
    have hg := idx_ge 10 l
    unfold Lib.indexByte lnLen
    by_cases h : c = 10
    · subst h; simp
    · rw [if_neg (by simp [h]), if_neg h]
      by_cases hm : Lib.indexByte l 10 = -1
      · rw [if_pos (by simp [hm])]
        have := ih.2 (by omega)
        exact ⟨fun h => absurd h (by decide), fun _ => by rw [this, List.length_cons]⟩
      · rw [if_neg (by simp [hm])]
        have := ih.1 (by omega)
        exact ⟨fun _ => by omega, fun h => by omega⟩

set_option maxHeartbeats 1000000 in
theorem lineLength_any (s : ByteArray) (w : World) :
    Calls Tryz.prog 101 #[.string s] w fun e w' => e = .returned (.int .i64 (lnLen s.data.toList : Int)) ∧ w' = w := by
  obtain ⟨h1, h2⟩ := ln_idx s.data.toList
  by_cases h : 0 ≤ Lib.indexByte s.data.toList 10
  · have H := hide (h1 h)
    clear h1 h2
    go_enter Tryz.func101, Tryz.ntmps101
    go_wp2_with (go_at_call 124; refine (Tryz.strings_IndexByte s 10 _).mono ?_; rintro e w' ⟨rfl, rfl⟩; rw [show (10 : Int).toNat.toUInt8 = 10 from rfl])
    go_ret
    exact ⟨ret_int (unhide H).symm, rfl⟩
  · have H := hide (h2 h)
    clear h1 h2
    go_enter Tryz.func101, Tryz.ntmps101
    go_wp2_with (go_at_call 124; refine (Tryz.strings_IndexByte s 10 _).mono ?_; rintro e w' ⟨rfl, rfl⟩; rw [show (10 : Int).toNat.toUInt8 = 10 from rfl])
    go_ret
    exact ⟨ret_int (by rw [unhide H, ← size_len]), rfl⟩

theorem ce_idx : ∀ l : Txt, (cEnd l = none → Lib.index l [42, 47] = -1) ∧ (∀ n, cEnd l = some n → Lib.index l [42, 47] = (n : Int))
  | [] => ⟨fun _ => rfl, fun n h => by cases h⟩
  | c :: l => by
    have ih := ce_idx l
    unfold cEnd Lib.index
    have e : pre [42, 47] (c :: l) = ([42, 47] : Txt).isPrefixOf (c :: l) := rfl
    rw [e]
    by_cases hp : ([42, 47] : Txt).isPrefixOf (c :: l) = true
    · rw [if_pos hp, if_pos hp]
      exact ⟨(fun h => by cases h), (fun n h => by cases h; rfl)⟩
    · rw [if_neg hp, if_neg hp]
      cases hc : cEnd l with
      | none =>
        rw [ih.1 hc]
        exact ⟨fun _ => rfl, (fun n h => by cases h)⟩
      | some m =>
        rw [ih.2 m hc, if_neg (by rw [beq_iff_eq]; omega)]
        refine ⟨(fun h => by cases h), fun n h => ?_⟩
        have : m + 1 = n := by simpa using h
        omega
def cmV : Option Nat → Value
  | none => .tuple #[.int .i64 0, .bool false]
  | some n => .tuple #[.int .i64 ((n : Int) + 4), .bool true]

theorem ext_drop (s : ByteArray) (k : Nat) : (s.extract k s.size).data.toList = s.data.toList.drop k := by
  have : (s.extract k s.size).data = s.data.extract k s.size := by simp
  rw [this, Array.toList_extract]
  show (s.data.toList.drop k).take (s.size - k) = _
  exact List.take_of_length_le (by rw [len_drop]; exact Nat.le_refl _)
theorem ext_piece (s : ByteArray) (k n : Nat) : (s.extract k (k + n)).data.toList = (s.data.toList.drop k).take n := by
  have : (s.extract k (k + n)).data = s.data.extract k (k + n) := by simp
  rw [this, Array.toList_extract]
  simp [List.take_drop]
theorem bytes_of {s : ByteArray} {l : Txt} (h : s.data.toList = l) : s = ⟨l.toArray⟩ := by
  cases s with
  | mk d => subst h; rfl
theorem run_tail (s : ByteArray) (k : Nat) (a : Int) (ha : a = (k : Int)) (hk : k ≤ s.size) (w : World) :
    (Instr.slice 9 (.string s) (some (.int .i64 a)) none none).run Tryz.prog w = .ok (.string (s.extract k s.size)) w := by
  subst ha
  have := run_slice_string_l (P := Tryz.prog) w 9 s Tryz.underlying9 .i64 (k : Int) (by omega) (by omega)
  rwa [Int.toNat_natCast] at this
theorem run_piece (s : ByteArray) (k n : Nat) (a b : Int) (ha : a = (k : Int)) (hb : b = ((k + n : Nat) : Int)) (hk : k + n ≤ s.size) (w : World) :
    (Instr.slice 9 (.string s) (some (.int .i64 a)) (some (.int .i64 b)) none).run Tryz.prog w = .ok (.string (s.extract k (k + n))) w := by
  subst ha hb
  have := run_slice_string (P := Tryz.prog) w 9 s .i64 .i64 (k : Int) ((k + n : Nat) : Int) Tryz.underlying9 (by omega) (by omega) (by omega)
  rwa [Int.toNat_natCast, Int.toNat_natCast] at this

set_option maxHeartbeats 1000000 in
theorem commentLength_any (s : ByteArray) (m : Int) (h2 : 2 ≤ s.size) (hs : s.size ≤ 65536) (w : World) (hm : w.cell? ⟨2, 0, none⟩ = some (.int .i64 m)) :
    Calls Tryz.prog 102 #[.string s] w fun e w' => e = .returned (cmV (cEnd (s.data.toList.drop 2))) ∧ w' = w := by
  have hrun := run_tail s 2 2 rfl h2
  obtain ⟨u, hu⟩ : ∃ u, s.extract 2 s.size = u := ⟨_, rfl⟩
  have hul : u.data.toList = s.data.toList.drop 2 := by rw [← hu]; exact ext_drop s 2
  have hus : u.size < 4294967281 := by rw [size_len, hul, len_drop]; omega
  rw [hu] at hrun
  obtain ⟨i1, i2⟩ := ce_idx u.data.toList
  rw [← hul]
  clear hul hu
  have HM := hide hm
  clear hm
  cases hc : cEnd u.data.toList with
  | none =>
    have H := hide (i1 hc)
    clear i1 i2
    go_enter Tryz.func102, Tryz.ntmps102
    go_wp2_with (go_at_call 125; refine (Tryz.strings_Index u ⟨#[42, 47]⟩ m _ hus (unhide HM)).mono ?_; rintro e w' ⟨rfl, rfl⟩; rw [show Lib.index u.data.toList (⟨#[42, 47]⟩ : ByteArray).data.toList = -1 from unhide H])
    go_ret2
    exact ⟨rfl, rfl⟩
  | some n =>
    have H := hide (i2 n hc)
    have hn : n ≤ 65536 := by
      have := ce_le _ _ hc
      rw [← size_len] at this
      have : u.size ≤ s.size := by have := run_tail s 2 2 rfl h2 w; rw [hrun w] at this; injection this with this _; injection this with this; rw [this]; simp
      omega
    clear i1 i2
    go_enter Tryz.func102, Tryz.ntmps102
    go_wp2_with (go_at_call 125; refine (Tryz.strings_Index u ⟨#[42, 47]⟩ m _ hus (unhide HM)).mono ?_; rintro e w' ⟨rfl, rfl⟩; rw [show Lib.index u.data.toList (⟨#[42, 47]⟩ : ByteArray).data.toList = (n : Int) from unhide H])
    go_ret2
    exact ⟨by simp [cmV]; omega, rfl⟩
end Go.Proofs.YtcdobniommnflaaGreatDoor

namespace Go.Proofs.YtcdobniommnflaaGreatDoor
open Go.RowKit

theorem gap_blank {s : ByteArray} {m : Nat} (h : m < s.size) (hb : isB (bv s[m]) = true) : gapAt (s.data.toList.drop m) = .gap 1 := by
  rw [drop_at s m h, gap_cons, if_pos hb]
theorem gap_line {s : ByteArray} {m : Nat} (h : m < s.size) (hb : isB (bv s[m]) = false) (hp : pre [47, 47] (s.data.toList.drop m) = true) : gapAt (s.data.toList.drop m) = .gap (lnLen (s.data.toList.drop m)) := by
  rw [drop_at s m h] at hp ⊢
  rw [gap_cons, if_neg (by simp [hb]), if_pos hp]
theorem gap_comm {s : ByteArray} {m : Nat} (h : m < s.size) (hb : isB (bv s[m]) = false) (hp : pre [47, 47] (s.data.toList.drop m) = false) (hq : pre [47, 42] (s.data.toList.drop m) = true) :
    gapAt (s.data.toList.drop m) = cGap (s.data.toList.drop (m + 2)) := by
  rw [drop_at s m h] at hp hq ⊢
  rw [gap_cons, if_neg (by simp [hb]), if_neg (by simp [hp]), if_pos hq, List.drop_drop]
theorem gap_not {s : ByteArray} {m : Nat} (h : m < s.size) (hb : isB (bv s[m]) = false) (hp : pre [47, 47] (s.data.toList.drop m) = false) (hq : pre [47, 42] (s.data.toList.drop m) = false) :
    gapAt (s.data.toList.drop m) = .none := by
  rw [drop_at s m h] at hp hq ⊢
  rw [gap_cons, if_neg (by simp [hb]), if_neg (by simp [hp]), if_neg (by simp [hq])]
theorem pre_two {s : ByteArray} {m : Nat} {a b : UInt8} (h : pre [a, b] (s.data.toList.drop m) = true) : m + 2 ≤ s.size := by
  have := pre_len h
  rw [len_drop] at this
  simp only [List.length_cons, List.length_nil] at this
  omega

/-- From the k-th byte on there are gaps up to the m-th. -/
def Gone (s : ByteArray) (k m : Nat) : Prop := k ≤ m ∧ m ≤ s.size ∧ scan k (s.data.toList.drop k) = scan m (s.data.toList.drop m)
theorem Gone.step {s : ByteArray} {k m n : Nat} (h : Gone s k m) (hg : gapAt (s.data.toList.drop m) = .gap n) : Gone s k (m + n) ∧ 0 < n := by
  have hp := gap_pos hg
  rw [len_drop] at hp
  refine ⟨⟨by have := h.1; omega, by have := h.2.1; omega, ?_⟩, hp.1⟩
  rw [h.2.2, scan_gap hg, List.drop_drop]
/-- What gapsEnd answers. -/
def GapEnd (s : ByteArray) (k : Nat) (e : Ending) : Prop := ∃ m, Gone s k m ∧
  ((gapAt (s.data.toList.drop m) = .never ∧ e = .returned (.tuple #[.int .i64 0, .agg #[.int .i64 7, .int .i64 (m : Int)]])) ∨
   (gapAt (s.data.toList.drop m) = .none ∧ e = .returned (.tuple #[.int .i64 (m : Int), .agg #[.int .i64 0, .int .i64 0]])))

set_option maxHeartbeats 4000000 in
theorem gapsEnd_any (s : ByteArray) (k : Nat) (ml : Int) (hk : k ≤ s.size) (hs : s.size ≤ 65536) (w : World) (hm : w.cell? ⟨2, 0, none⟩ = some (.int .i64 ml)) :
    Calls Tryz.prog 74 #[.string s, .int .i64 (k : Int)] w fun e w' => GapEnd s k e ∧ Below w.heap.size w w' := by
  have HM := hide (show ∀ o, (w.alloc o).cell? ⟨2, 0, none⟩ = some (.int .i64 ml) from fun o => (((Below.refl w.heap.size w).alloc (Nat.le_refl _) o).cell (World.block_lt_of_cell? w _ hm)).trans hm)
  have HB := hide (show ∀ o, Below w.heap.size w (w.alloc o) from fun o => (Below.refl w.heap.size w).alloc (Nat.le_refl _) o)
  clear hm
  go_enter Tryz.func74, Tryz.ntmps74
  go_wp2
  go_loop [1] (fun i => ∃ m : Nat, i = .int .i64 (m : Int) ∧ Hid (Gone s k m)) (fun i => s.size - (intOf i).toNat)
  case atStart => exact ⟨k, rfl, hide ⟨Nat.le_refl _, hk, rfl⟩⟩
  case round =>
    obtain ⟨m, rfl, HH⟩ := hrel
    have hle := (unhide HH).2.1
    by_cases hlt : m < s.size
    · have hrun := run_tail s m (m : Int) rfl hle
      obtain ⟨u, hu⟩ : ∃ u, s.extract m s.size = u := ⟨_, rfl⟩
      have hul : u.data.toList = s.data.toList.drop m := by rw [← hu]; exact ext_drop s m
      rw [hu] at hrun
      have HUL := hide hul
      clear hu hul
      cases hb : isB (s[m].toNat : Int) with
      | true =>
        go_wp2_with (go_at_call 99; refine (isBlank_any _ _).mono ?_; rintro e w' ⟨rfl, rfl⟩; rw [hb])
        go_round
        case rel => exact ⟨m + 1, by go_num, hide ((unhide HH).step (gap_blank hlt hb)).1⟩
        case measure => simp [intOf]; omega
      | false =>
        cases hp : pre [47, 47] (s.data.toList.drop m) with
        | true =>
          have HP := hide (show Lib.hasPrefix u.data.toList (⟨#[47, 47]⟩ : ByteArray).data.toList = true by rw [unhide HUL]; exact hp)
          have HG := hide (gap_line hlt hb hp)
          have hst := (unhide HH).step (unhide HG)
          have hln : lnLen u.data.toList = lnLen (s.data.toList.drop m) := by rw [unhide HUL]
          obtain ⟨n, hn⟩ : ∃ n, lnLen (s.data.toList.drop m) = n := ⟨_, rfl⟩
          rw [hn] at hln hst
          have HST := hide hst
          have hbd := hst.1.2.1
          have hpos := hst.2
          clear hp hn hst
          go_wp2_with (first
            | (go_at_call 99; refine (isBlank_any _ _).mono ?_; rintro e w' ⟨rfl, rfl⟩; rw [hb])
            | (go_at_call 100; refine (Tryz.strings_HasPrefix u ⟨#[47, 47]⟩ _).mono ?_; rintro e w' ⟨rfl, rfl⟩; rw [unhide HP])
            | (go_at_call 101; refine (lineLength_any u _).mono ?_; rintro e w' ⟨rfl, rfl⟩; rw [hln]))
          go_round
          case rel => exact ⟨m + n, by go_num, hide (unhide HST).1⟩
          case measure => simp [intOf]; omega
        | false =>
          have HP := hide (show Lib.hasPrefix u.data.toList (⟨#[47, 47]⟩ : ByteArray).data.toList = false by rw [unhide HUL]; exact hp)
          cases hq : pre [47, 42] (s.data.toList.drop m) with
          | false =>
            have HQ := hide (show Lib.hasPrefix u.data.toList (⟨#[47, 42]⟩ : ByteArray).data.toList = false by rw [unhide HUL]; exact hq)
            have HG := hide (gap_not hlt hb hp hq)
            clear hp hq
            go_wp2_with (first
              | (go_at_call 99; refine (isBlank_any _ _).mono ?_; rintro e w' ⟨rfl, rfl⟩; rw [hb])
              | (go_at_call 100; refine (Tryz.strings_HasPrefix u _ _).mono ?_; rintro e w' ⟨rfl, rfl⟩; first | rw [unhide HP] | rw [unhide HQ]))
            refine bodyPost_ret (v := .tuple #[.int .i64 (m : Int), .agg #[.int .i64 0, .int .i64 0]]) (by simp [results, Tryz.results74, go_sem]) rfl ?_
            exact ⟨⟨m, unhide HH, .inr ⟨unhide HG, rfl⟩⟩, unhide HB _⟩
          | true =>
            have HQ := hide (show Lib.hasPrefix u.data.toList (⟨#[47, 42]⟩ : ByteArray).data.toList = true by rw [unhide HUL]; exact hq)
            have HG := hide (gap_comm hlt hb hp hq)
            have h2 := pre_two hq
            have hus : u.size = s.size - m := by rw [size_len, unhide HUL, len_drop]
            have hd2 : u.data.toList.drop 2 = s.data.toList.drop (m + 2) := by rw [unhide HUL, List.drop_drop]
            have HD2 := hide hd2
            have hu2 : 2 ≤ u.size := by omega
            have hu3 : u.size ≤ 65536 := by omega
            clear hp hq hd2 hus
            cases hc : cEnd (s.data.toList.drop (m + 2)) with
            | none =>
              have HC := hide hc
              clear hc
              go_wp2_with (first
                | (go_at_call 99; refine (isBlank_any _ _).mono ?_; rintro e w' ⟨rfl, rfl⟩; rw [hb])
                | (go_at_call 100; refine (Tryz.strings_HasPrefix u _ _).mono ?_; rintro e w' ⟨rfl, rfl⟩; first | rw [unhide HP] | rw [unhide HQ])
                | (go_at_call 102; refine (commentLength_any u ml hu2 hu3 _ (unhide HM _)).mono ?_; rintro e w' ⟨rfl, rfl⟩; rw [unhide HD2, unhide HC]; unfold cmV))
              refine bodyPost_ret (v := .tuple #[.int .i64 0, .agg #[.int .i64 7, .int .i64 (m : Int)]]) (by simp [results, Tryz.results74, go_sem]) rfl ?_
              exact ⟨⟨m, unhide HH, .inl ⟨by rw [unhide HG]; unfold cGap; rw [unhide HC], rfl⟩⟩, unhide HB _⟩
            | some n =>
              have HC := hide hc
              have hg2 : gapAt (s.data.toList.drop m) = .gap (n + 4) := by rw [unhide HG]; unfold cGap; rw [hc]
              have hst := (unhide HH).step hg2
              have HST := hide hst
              have hbd := hst.1.2.1
              clear hc hg2 hst
              go_wp2_with (first
                | (go_at_call 99; refine (isBlank_any _ _).mono ?_; rintro e w' ⟨rfl, rfl⟩; rw [hb])
                | (go_at_call 100; refine (Tryz.strings_HasPrefix u _ _).mono ?_; rintro e w' ⟨rfl, rfl⟩; first | rw [unhide HP] | rw [unhide HQ])
                | (go_at_call 102; refine (commentLength_any u ml hu2 hu3 _ (unhide HM _)).mono ?_; rintro e w' ⟨rfl, rfl⟩; rw [unhide HD2, unhide HC]; unfold cmV))
              go_round
              case rel => exact ⟨m + (n + 4), by go_num, hide (unhide HST).1⟩
              case measure => simp [intOf]; omega
    · go_wp2
      refine bodyPost_ret (v := .tuple #[.int .i64 (m : Int), .agg #[.int .i64 0, .int .i64 0]]) (by simp [results, Tryz.results74, go_sem]) rfl ?_
      exact ⟨⟨m, unhide HH, .inr ⟨by rw [drop_end s m (by omega)]; rfl, rfl⟩⟩, unhide HB _⟩
end Go.Proofs.YtcdobniommnflaaGreatDoor

namespace Go.Proofs.YtcdobniommnflaaGreatDoor.Num
open Go.RowKit

/-- A number of 64 bits. -/
def Fits (n : Int) : Prop := -9223372036854775808 ≤ n ∧ n ≤ 9223372036854775807

def addP (a b : Int) : Int × Int := if -9223372036854775808 ≤ a + b ∧ a + b ≤ 9223372036854775807 then (a + b, 0) else (0, 8)
def subP (a b : Int) : Int × Int := if -9223372036854775808 ≤ a - b ∧ a - b ≤ 9223372036854775807 then (a - b, 0) else (0, 8)
def mulP (a b : Int) : Int × Int := if -9223372036854775808 ≤ a * b ∧ a * b ≤ 9223372036854775807 then (a * b, 0) else (0, 8)
def divP (a b : Int) : Int × Int := if b = 0 then (0, 9) else if a = -9223372036854775808 ∧ b = -1 then (0, 8) else (a.tdiv b, 0)
def remP (a b : Int) : Int × Int := if b = 0 then (0, 9) else (a.tmod b, 0)

theorem ret2 {a b : Int} {p : Int × Int} (h : p = (a, b)) : Ending.returned (.tuple #[.int .i64 a, .int .i64 b]) = .returned (.tuple #[.int .i64 p.1, .int .i64 p.2]) := by
  subst h; rfl

theorem wrap_fits {n : Int} (h : Fits n) : wrap64 n = n := by unfold Fits at h; unfold wrap64; omega
theorem fits_wrap (n : Int) : Fits (wrap64 n) := by unfold Fits wrap64; omega

theorem add_over {a b : Int} (ha : Fits a) (hb : Fits b) (h : (!decide (a < wrap64 (a + b)) == decide (0 < b)) = true) : addP a b = (0, 8) := by
  unfold Fits at ha hb
  have h' : ¬ (a < wrap64 (a + b) ↔ 0 < b) := by
    by_cases h1 : a < wrap64 (a + b) <;> by_cases h2 : 0 < b <;> simp [h1, h2] at h ⊢ <;> omega
  unfold wrap64 at h'
  unfold addP
  rw [if_neg]
  omega
theorem add_in {a b : Int} (ha : Fits a) (hb : Fits b) (h : (!decide (a < wrap64 (a + b)) == decide (0 < b)) = false) : addP a b = (wrap64 (a + b), 0) := by
  unfold Fits at ha hb
  have h' : (a < wrap64 (a + b) ↔ 0 < b) := by
    by_cases h1 : a < wrap64 (a + b) <;> by_cases h2 : 0 < b <;> simp [h1, h2] at h ⊢ <;> omega
  unfold wrap64 at h'
  have hf : Fits (a + b) := by unfold Fits; omega
  rw [wrap_fits hf]
  unfold addP
  rw [if_pos]
  unfold Fits at hf
  omega
theorem sub_over {a b : Int} (ha : Fits a) (hb : Fits b) (h : (!decide (wrap64 (a - b) < a) == decide (0 < b)) = true) : subP a b = (0, 8) := by
  unfold Fits at ha hb
  have h' : ¬ (wrap64 (a - b) < a ↔ 0 < b) := by
    by_cases h1 : wrap64 (a - b) < a <;> by_cases h2 : 0 < b <;> simp [h1, h2] at h ⊢ <;> omega
  unfold wrap64 at h'
  unfold subP
  rw [if_neg]
  omega
theorem sub_in {a b : Int} (ha : Fits a) (hb : Fits b) (h : (!decide (wrap64 (a - b) < a) == decide (0 < b)) = false) : subP a b = (wrap64 (a - b), 0) := by
  unfold Fits at ha hb
  have h' : (wrap64 (a - b) < a ↔ 0 < b) := by
    by_cases h1 : wrap64 (a - b) < a <;> by_cases h2 : 0 < b <;> simp [h1, h2] at h ⊢ <;> omega
  unfold wrap64 at h'
  have hf : Fits (a - b) := by unfold Fits; omega
  rw [wrap_fits hf]
  unfold subP
  rw [if_pos]
  unfold Fits at hf
  omega

theorem addP_in {a b : Int} (h : Fits (a + b)) : addP a b = (a + b, 0) := by unfold addP; exact if_pos h
theorem addP_out {a b : Int} (h : ¬ Fits (a + b)) : addP a b = (0, 8) := by unfold addP; exact if_neg h
theorem subP_in {a b : Int} (h : Fits (a - b)) : subP a b = (a - b, 0) := by unfold subP; exact if_pos h
theorem subP_out {a b : Int} (h : ¬ Fits (a - b)) : subP a b = (0, 8) := by unfold subP; exact if_neg h
theorem mulP_in {a b : Int} (h : Fits (a * b)) : mulP a b = (a * b, 0) := by unfold mulP; exact if_pos h
theorem mulP_out {a b : Int} (h : ¬ Fits (a * b)) : mulP a b = (0, 8) := by unfold mulP; exact if_neg h

theorem tmod_abs (p b : Int) (hb : b ≠ 0) : (p.tmod b).natAbs < b.natAbs := by
  rw [Int.natAbs_tmod]; exact Nat.mod_lt _ (by omega)

/-- The quotient of a 64-bit number leaves the bits only at the least one by -1. -/
theorem tdiv_fits {p b : Int} (hp : Fits p) (hb : b ≠ 0) (hx : ¬ (p = -9223372036854775808 ∧ b = -1)) : Fits (p.tdiv b) := by
  have h1 := Int.mul_tdiv_add_tmod p b
  have h2 := tmod_abs p b hb
  have h3 : (p.tdiv b).natAbs ≤ p.natAbs := by rw [Int.natAbs_tdiv]; exact Nat.div_le_self _ _
  generalize hq : p.tdiv b = q at *
  generalize p.tmod b = r at *
  unfold Fits at *
  by_cases e : q = 9223372036854775808
  · subst e; omega
  · omega

theorem mul_back {a b : Int} (ha : Fits a) (hb : Fits b) (h0 : b ≠ 0) (hx : ¬ (a = -9223372036854775808 ∧ b = -1)) : wrap64 ((wrap64 (a * b)).tdiv b) = a ↔ Fits (a * b) := by
  constructor
  · intro h
    by_cases hy : wrap64 (a * b) = -9223372036854775808 ∧ b = -1
    · obtain ⟨h1, rfl⟩ := hy
      rw [h1] at h
      have : Int.tdiv (-9223372036854775808) (-1) = 9223372036854775808 := by decide
      rw [this] at h
      unfold wrap64 at h
      omega
    · rw [wrap_fits (tdiv_fits (fits_wrap _) h0 hy)] at h
      have h1 := Int.mul_tdiv_add_tmod (wrap64 (a * b)) b
      have h2 := tmod_abs (wrap64 (a * b)) b h0
      rw [h, Int.mul_comm b a] at h1
      generalize a * b = m at *
      generalize (wrap64 m).tmod b = r at *
      unfold wrap64 Fits at *
      omega
  · intro h
    rw [wrap_fits h, Int.mul_tdiv_cancel _ h0, wrap_fits ha]

theorem mul_over {a b : Int} (ha : Fits a) (hb : Fits b) (h0 : b ≠ 0) (hx : ¬ (a = -9223372036854775808 ∧ b = -1)) (h : (wrap64 ((wrap64 (a * b)).tdiv b) != a) = true) : mulP a b = (0, 8) := by
  rw [bne_iff_ne] at h
  exact mulP_out fun hf => h ((mul_back ha hb h0 hx).2 hf)
theorem mul_in {a b : Int} (ha : Fits a) (hb : Fits b) (h0 : b ≠ 0) (hx : ¬ (a = -9223372036854775808 ∧ b = -1)) (h : (wrap64 ((wrap64 (a * b)).tdiv b) != a) = false) : mulP a b = (wrap64 (a * b), 0) := by
  have h' : wrap64 ((wrap64 (a * b)).tdiv b) = a := by simpa using h
  have hf := (mul_back ha hb h0 hx).1 h'
  rw [mulP_in hf, wrap_fits hf]
theorem mul_neg (a : Int) : mulP a (-1) = subP 0 a := by
  unfold mulP subP
  rw [show a * -1 = 0 - a by omega]
theorem mul_zero (a : Int) : mulP a 0 = (0, 0) := by
  rw [mulP_in (by unfold Fits; omega)]; simp
theorem zero_mul (b : Int) : mulP 0 b = (0, 0) := by
  rw [mulP_in (by unfold Fits; omega)]; simp
theorem tmod_neg_one (a : Int) : a.tmod (-1) = 0 := by
  have := tmod_abs a (-1) (by decide)
  omega
theorem tmod_fits {a b : Int} (hb : Fits b) (h0 : b ≠ 0) : Fits (a.tmod b) := by
  have := tmod_abs a b h0
  unfold Fits at *
  omega
end Go.Proofs.YtcdobniommnflaaGreatDoor.Num

namespace Go.Proofs.YtcdobniommnflaaGreatDoor.Num
open Go.RowKit

def dig (c : UInt8) : Bool := decide (48 ≤ c.toNat) && decide (c.toNat ≤ 57)
def valFrom : Nat → List UInt8 → Nat
  | acc, [] => acc
  | acc, c :: r => valFrom (acc * 10 + (c.toNat - 48)) r
def trim (l : List UInt8) : List UInt8 := Lib.trimPrefix l [45]
def isNeg (l : List UInt8) : Bool := l.head? == some 45
def numForm (l : List UInt8) : Bool := l == [48] || (!(trim l).isEmpty && (trim l).head? != some 48 && (trim l).all dig)
def numVal (l : List UInt8) : Int := if isNeg l = true then -(valFrom 0 (trim l) : Int) else (valFrom 0 (trim l) : Int)
def parseP (l : List UInt8) : Int × Int :=
  if numForm l = true then (if -9223372036854775808 ≤ numVal l ∧ numVal l ≤ 9223372036854775807 then (numVal l, 0) else (0, 8)) else (0, 7)

theorem dig_iff {c : UInt8} : dig c = true ↔ 48 ≤ c.toNat ∧ c.toNat ≤ 57 := by simp [dig]

theorem valFrom_snoc : ∀ (l : List UInt8) (acc : Nat) (c : UInt8), valFrom acc (l ++ [c]) = valFrom acc l * 10 + (c.toNat - 48)
  | [], _, _ => rfl
  | x :: r, acc, c => valFrom_snoc r (acc * 10 + (x.toNat - 48)) c
theorem valFrom_le : ∀ (l : List UInt8) (acc : Nat), acc ≤ valFrom acc l
  | [], acc => Nat.le_refl _
  | x :: r, acc => by
    have := valFrom_le r (acc * 10 + (x.toNat - 48))
    have h2 : acc ≤ acc * 10 + (x.toNat - 48) := by omega
    exact Nat.le_trans h2 this

theorem trim_cases (l : List UInt8) : (isNeg l = true ∧ l = 45 :: trim l) ∨ (isNeg l = false ∧ trim l = l) := by
  unfold isNeg trim Lib.trimPrefix Lib.hasPrefix
  cases l with
  | nil => right; simp
  | cons c r =>
    by_cases h : c = 45
    · subst h; left; simp
    · right
      have h2 : ¬ 45 = c := fun e => h e.symm
      simp [h, h2]

theorem form_zero : numForm [48] = true := by decide
theorem form_trim {l : List UInt8} (h : numForm l = true) : (trim l).all dig = true ∧ trim l ≠ [] := by
  unfold numForm at h
  simp only [Bool.or_eq_true, Bool.and_eq_true, beq_iff_eq] at h
  rcases h with rfl | ⟨⟨h1, _⟩, h3⟩
  · exact ⟨by decide, by decide⟩
  · exact ⟨h3, fun e => by rw [e] at h1; simp at h1⟩

theorem parseUint10_dig (l : List UInt8) : ∀ (acc : Nat), l.all dig = true → acc < 18446744073709551616 →
    Lib.parseUint10 acc l = if valFrom acc l < 18446744073709551616 then .ok (valFrom acc l) else .range := by
  induction l with
  | nil =>
    intro acc _ ha
    have e : valFrom acc [] = acc := rfl
    rw [e, if_pos ha]
    rfl
  | cons c r ih =>
    intro acc h ha
    simp only [List.all_cons, Bool.and_eq_true] at h
    have hc := dig_iff.1 h.1
    have hm := valFrom_le r (acc * 10 + (c.toNat - 48))
    have e : valFrom acc (c :: r) = valFrom (acc * 10 + (c.toNat - 48)) r := rfl
    rw [e, Lib.parseUint10, if_pos hc]
    by_cases h1 : 1844674407370955162 ≤ acc
    · rw [if_pos h1, if_neg (by omega)]
    · rw [if_neg h1]
      by_cases h2 : 18446744073709551616 ≤ acc * 10 + (c.toNat - 48)
      · rw [if_pos h2, if_neg (by omega)]
      · rw [if_neg h2]
        exact ih _ h.2 (by omega)

theorem atoi_form {l : List UInt8} (h : numForm l = true) :
    (Fits (numVal l) → Lib.atoiAll l = .ok (numVal l)) ∧ (¬ Fits (numVal l) → Lib.atoiAll l = .range) := by
  obtain ⟨hd, hne⟩ := form_trim h
  have hp := parseUint10_dig (trim l) 0 hd (by omega)
  have hmag : Lib.parseMag (trim l) = if valFrom 0 (trim l) < 18446744073709551616 then .ok (valFrom 0 (trim l)) else .range := by
    unfold Lib.parseMag; rw [if_neg hne]; exact hp
  rcases trim_cases l with ⟨hn, hl⟩ | ⟨hn, hl⟩
  · generalize htd : trim l = d at *
    unfold numVal Fits
    rw [hn, htd, if_pos rfl]
    generalize valFrom 0 d = v at *
    have e : Lib.atoiAll l = match Lib.parseMag d with
      | .ok u => if 9223372036854775808 < u then .range else .ok (-(u : Int))
      | x => x.rec (fun u => .ok (u : Int)) (Lib.atoiAll []) .range := by
      rw [hl]; unfold Lib.atoiAll
      simp
      cases Lib.parseMag d <;> simp
    rw [e, hmag]
    by_cases h1 : v < 18446744073709551616
    · rw [if_pos h1]
      by_cases h2 : 9223372036854775808 < v
      · exact ⟨fun hf => absurd hf (by omega), fun _ => show (if 9223372036854775808 < v then Lib.NumEnd.range else .ok (-(v : Int))) = .range from if_pos h2⟩
      · exact ⟨fun _ => show (if 9223372036854775808 < v then Lib.NumEnd.range else .ok (-(v : Int))) = .ok (-(v : Int)) from if_neg h2, fun hf => absurd hf (by omega)⟩
    · rw [if_neg h1]
      exact ⟨fun hf => absurd hf (by omega), fun _ => rfl⟩
  · rw [hl] at hd hne hmag
    unfold numVal Fits
    rw [hn, hl, if_neg (by simp)]
    generalize hv : valFrom 0 l = v at *
    cases l with
    | nil => exact absurd rfl hne
    | cons c r =>
      have hc := dig_iff.1 (by simpa using (List.all_eq_true.1 hd) c (by simp) : dig c = true)
      have h45 : ¬ c.toNat = 45 := by omega
      have h43 : ¬ (c.toNat = 43 ∨ c.toNat = 45) := by omega
      have e : Lib.atoiAll (c :: r) = match Lib.parseMag (c :: r) with
        | .ok u => if 9223372036854775808 ≤ u then .range else .ok (u : Int)
        | x => x.rec (fun u => .ok (u : Int)) (Lib.atoiAll []) .range := by
        unfold Lib.atoiAll
        simp only [if_neg h43]
        cases Lib.parseMag (c :: r) <;> simp [h45]
      rw [e, hmag]
      by_cases h1 : v < 18446744073709551616
      · rw [if_pos h1]
        by_cases h2 : 9223372036854775808 ≤ v
        · exact ⟨fun hf => absurd hf (by omega), fun _ => show (if 9223372036854775808 ≤ v then Lib.NumEnd.range else .ok (v : Int)) = .range from if_pos h2⟩
        · exact ⟨fun _ => show (if 9223372036854775808 ≤ v then Lib.NumEnd.range else .ok (v : Int)) = .ok (v : Int) from if_neg h2, fun hf => absurd hf (by omega)⟩
      · rw [if_neg h1]
        exact ⟨fun hf => absurd hf (by omega), fun _ => rfl⟩

theorem parse_form {l : List UInt8} (h : numForm l = false) : parseP l = (0, 7) := by unfold parseP; rw [if_neg (by simp [h])]
theorem parse_in {l : List UInt8} (h : numForm l = true) (hf : Fits (numVal l)) : parseP l = (numVal l, 0) := by unfold parseP; rw [if_pos h]; exact if_pos hf
theorem parse_out {l : List UInt8} (h : numForm l = true) (hf : ¬ Fits (numVal l)) : parseP l = (0, 8) := by unfold parseP; rw [if_pos h]; exact if_neg hf

/-! ### There and back -/
end Go.Proofs.YtcdobniommnflaaGreatDoor.Num
