/- Walks of the gaps: a line's end, a comment's length, and where no gap stands. -/
import Derived.Test.YtbekkpfbjafagaaDoorLxd
import Derived.Below
namespace Go.Proofs.YtbekkpfbjafagaaDoor
open Go.RowKit

theorem idx_ge (c : UInt8) : ∀ l : Txt, -1 ≤ Lib.indexByte l c
  | [] => by simp [Lib.indexByte]
  | d :: m => by
    have ih := idx_ge c m
    unfold Lib.indexByte; split
    · decide
    · split
      · decide
      · omega
theorem ln_idx : ∀ l : Txt, (0 ≤ Lib.indexByte l 10 → (lnLen l : Int) = Lib.indexByte l 10) ∧ (¬ 0 ≤ Lib.indexByte l 10 → lnLen l = l.length)
  | [] => by simp [Lib.indexByte, lnLen]
  | c :: l => by
    have ih := ln_idx l
    have hg := idx_ge 10 l
    unfold Lib.indexByte lnLen
    by_cases h : c = 10
    · subst h; simp
    · rw [if_neg (by simp [h]), if_neg h]
      by_cases hm : Lib.indexByte l 10 = -1
      · rw [if_pos (by simp [hm])]
        have := ih.2 (by omega)
        exact ⟨fun h => absurd h (by decide), fun _ => by rw [this, List.length_cons]⟩
      · rw [if_neg (by simp [hm])]
        have := ih.1 (by omega)
        exact ⟨fun _ => by omega, fun h => by omega⟩

set_option maxHeartbeats 1000000 in
theorem lineLength_any (s : ByteArray) (w : World) :
    Calls Tryd.prog 32 #[.string s] w fun e w' => e = .returned (.int .i64 (lnLen s.data.toList : Int)) ∧ w' = w := by
  obtain ⟨h1, h2⟩ := ln_idx s.data.toList
  by_cases h : 0 ≤ Lib.indexByte s.data.toList 10
  · have H := hide (h1 h)
    clear h1 h2
    go_enter Tryd.func32, Tryd.ntmps32
    go_wp2_with (go_at_call 44; refine (Tryd.strings_IndexByte s 10 _).mono ?_; rintro e w' ⟨rfl, rfl⟩; rw [show (10 : Int).toNat.toUInt8 = 10 from rfl])
    go_ret
    exact ⟨ret_int (unhide H).symm, rfl⟩
  · have H := hide (h2 h)
    clear h1 h2
    go_enter Tryd.func32, Tryd.ntmps32
    go_wp2_with (go_at_call 44; refine (Tryd.strings_IndexByte s 10 _).mono ?_; rintro e w' ⟨rfl, rfl⟩; rw [show (10 : Int).toNat.toUInt8 = 10 from rfl])
    go_ret
    exact ⟨ret_int (by rw [unhide H, ← size_len]), rfl⟩

theorem ce_idx : ∀ l : Txt, (cEnd l = none → Lib.index l [42, 47] = -1) ∧ (∀ n, cEnd l = some n → Lib.index l [42, 47] = (n : Int))
  | [] => ⟨fun _ => rfl, fun n h => by cases h⟩
  | c :: l => by
    have ih := ce_idx l
    unfold cEnd Lib.index
    have e : pre [42, 47] (c :: l) = ([42, 47] : Txt).isPrefixOf (c :: l) := rfl
    rw [e]
    by_cases hp : ([42, 47] : Txt).isPrefixOf (c :: l) = true
    · rw [if_pos hp, if_pos hp]
      exact ⟨(fun h => by cases h), (fun n h => by cases h; rfl)⟩
    · rw [if_neg hp, if_neg hp]
      cases hc : cEnd l with
      | none =>
        rw [ih.1 hc]
        exact ⟨fun _ => rfl, (fun n h => by cases h)⟩
      | some m =>
        rw [ih.2 m hc, if_neg (by rw [beq_iff_eq]; omega)]
        refine ⟨(fun h => by cases h), fun n h => ?_⟩
        have : m + 1 = n := by simpa using h
        omega
def cmV : Option Nat → Value
  | none => .tuple #[.int .i64 0, .bool false]
  | some n => .tuple #[.int .i64 ((n : Int) + 4), .bool true]

theorem ext_drop (s : ByteArray) (k : Nat) : (s.extract k s.size).data.toList = s.data.toList.drop k := by
  have : (s.extract k s.size).data = s.data.extract k s.size := by simp
  rw [this, Array.toList_extract]
  show (s.data.toList.drop k).take (s.size - k) = _
  exact List.take_of_length_le (by rw [len_drop]; exact Nat.le_refl _)
theorem ext_piece (s : ByteArray) (k n : Nat) : (s.extract k (k + n)).data.toList = (s.data.toList.drop k).take n := by
  have : (s.extract k (k + n)).data = s.data.extract k (k + n) := by simp
  rw [this, Array.toList_extract]
  simp [List.take_drop]
theorem bytes_of {s : ByteArray} {l : Txt} (h : s.data.toList = l) : s = ⟨l.toArray⟩ := by
  cases s with
  | mk d => subst h; rfl
theorem run_tail (s : ByteArray) (k : Nat) (a : Int) (ha : a = (k : Int)) (hk : k ≤ s.size) (w : World) :
    (Instr.slice 9 (.string s) (some (.int .i64 a)) none none).run Tryd.prog w = .ok (.string (s.extract k s.size)) w := by
  subst ha
  have := run_slice_string_l (P := Tryd.prog) w 9 s Tryd.underlying9 .i64 (k : Int) (by omega) (by omega)
  rwa [Int.toNat_natCast] at this
theorem run_piece (s : ByteArray) (k n : Nat) (a b : Int) (ha : a = (k : Int)) (hb : b = ((k + n : Nat) : Int)) (hk : k + n ≤ s.size) (w : World) :
    (Instr.slice 9 (.string s) (some (.int .i64 a)) (some (.int .i64 b)) none).run Tryd.prog w = .ok (.string (s.extract k (k + n))) w := by
  subst ha hb
  have := run_slice_string (P := Tryd.prog) w 9 s .i64 .i64 (k : Int) ((k + n : Nat) : Int) Tryd.underlying9 (by omega) (by omega) (by omega)
  rwa [Int.toNat_natCast, Int.toNat_natCast] at this

set_option maxHeartbeats 1000000 in
theorem commentLength_any (s : ByteArray) (m : Int) (h2 : 2 ≤ s.size) (hs : s.size ≤ 65536) (w : World) (hm : w.cell? ⟨2, 0, none⟩ = some (.int .i64 m)) :
    Calls Tryd.prog 33 #[.string s] w fun e w' => e = .returned (cmV (cEnd (s.data.toList.drop 2))) ∧ w' = w := by
  have hrun := run_tail s 2 2 rfl h2
  obtain ⟨u, hu⟩ : ∃ u, s.extract 2 s.size = u := ⟨_, rfl⟩
  have hul : u.data.toList = s.data.toList.drop 2 := by rw [← hu]; exact ext_drop s 2
  have hus : u.size < 4294967281 := by rw [size_len, hul, len_drop]; omega
  rw [hu] at hrun
  obtain ⟨i1, i2⟩ := ce_idx u.data.toList
  rw [← hul]
  clear hul hu
  have HM := hide hm
  clear hm
  cases hc : cEnd u.data.toList with
  | none =>
    have H := hide (i1 hc)
    clear i1 i2
    go_enter Tryd.func33, Tryd.ntmps33
    go_wp2_with (go_at_call 41; refine (Tryd.strings_Index u ⟨#[42, 47]⟩ m _ hus (unhide HM)).mono ?_; rintro e w' ⟨rfl, rfl⟩; rw [show Lib.index u.data.toList (⟨#[42, 47]⟩ : ByteArray).data.toList = -1 from unhide H])
    go_ret2
    exact ⟨rfl, rfl⟩
  | some n =>
    have H := hide (i2 n hc)
    have hn : n ≤ 65536 := by
      have := ce_le _ _ hc
      rw [← size_len] at this
      have : u.size ≤ s.size := by have := run_tail s 2 2 rfl h2 w; rw [hrun w] at this; injection this with this _; injection this with this; rw [this]; simp
      omega
    clear i1 i2
    go_enter Tryd.func33, Tryd.ntmps33
    go_wp2_with (go_at_call 41; refine (Tryd.strings_Index u ⟨#[42, 47]⟩ m _ hus (unhide HM)).mono ?_; rintro e w' ⟨rfl, rfl⟩; rw [show Lib.index u.data.toList (⟨#[42, 47]⟩ : ByteArray).data.toList = (n : Int) from unhide H])
    go_ret2
    exact ⟨by simp [cmV]; omega, rfl⟩
end Go.Proofs.YtbekkpfbjafagaaDoor
