/- Walks of the gaps: gapsEnd, and the document's gap. -/
import Derived.Test.YtbekkpfbjafagaaDoorLxe
namespace Go.Proofs.YtbekkpfbjafagaaDoor
open Go.RowKit

theorem gap_blank {s : ByteArray} {m : Nat} (h : m < s.size) (hb : isB (bv s[m]) = true) : gapAt (s.data.toList.drop m) = .gap 1 := by
  rw [drop_at s m h, gap_cons, if_pos hb]
theorem gap_line {s : ByteArray} {m : Nat} (h : m < s.size) (hb : isB (bv s[m]) = false) (hp : pre [47, 47] (s.data.toList.drop m) = true) : gapAt (s.data.toList.drop m) = .gap (lnLen (s.data.toList.drop m)) := by
  rw [drop_at s m h] at hp ⊢
  rw [gap_cons, if_neg (by simp [hb]), if_pos hp]
theorem gap_comm {s : ByteArray} {m : Nat} (h : m < s.size) (hb : isB (bv s[m]) = false) (hp : pre [47, 47] (s.data.toList.drop m) = false) (hq : pre [47, 42] (s.data.toList.drop m) = true) :
    gapAt (s.data.toList.drop m) = cGap (s.data.toList.drop (m + 2)) := by
  rw [drop_at s m h] at hp hq ⊢
  rw [gap_cons, if_neg (by simp [hb]), if_neg (by simp [hp]), if_pos hq, List.drop_drop]
theorem gap_not {s : ByteArray} {m : Nat} (h : m < s.size) (hb : isB (bv s[m]) = false) (hp : pre [47, 47] (s.data.toList.drop m) = false) (hq : pre [47, 42] (s.data.toList.drop m) = false) :
    gapAt (s.data.toList.drop m) = .none := by
  rw [drop_at s m h] at hp hq ⊢
  rw [gap_cons, if_neg (by simp [hb]), if_neg (by simp [hp]), if_neg (by simp [hq])]
theorem pre_two {s : ByteArray} {m : Nat} {a b : UInt8} (h : pre [a, b] (s.data.toList.drop m) = true) : m + 2 ≤ s.size := by
  have := pre_len h
  rw [len_drop] at this
  simp only [List.length_cons, List.length_nil] at this
  omega

/-- From the k-th byte on there are gaps up to the m-th. -/
def Gone (s : ByteArray) (k m : Nat) : Prop := k ≤ m ∧ m ≤ s.size ∧ scan k (s.data.toList.drop k) = scan m (s.data.toList.drop m)
theorem Gone.step {s : ByteArray} {k m n : Nat} (h : Gone s k m) (hg : gapAt (s.data.toList.drop m) = .gap n) : Gone s k (m + n) ∧ 0 < n := by
  have hp := gap_pos hg
  rw [len_drop] at hp
  refine ⟨⟨by have := h.1; omega, by have := h.2.1; omega, ?_⟩, hp.1⟩
  rw [h.2.2, scan_gap hg, List.drop_drop]
/-- What gapsEnd answers. -/
def GapEnd (s : ByteArray) (k : Nat) (e : Ending) : Prop := ∃ m, Gone s k m ∧
  ((gapAt (s.data.toList.drop m) = .never ∧ e = .returned (.tuple #[.int .i64 0, .agg #[.int .i64 7, .int .i64 (m : Int)]])) ∨
   (gapAt (s.data.toList.drop m) = .none ∧ e = .returned (.tuple #[.int .i64 (m : Int), .agg #[.int .i64 0, .int .i64 0]])))

set_option maxHeartbeats 4000000 in
theorem gapsEnd_any (s : ByteArray) (k : Nat) (ml : Int) (hk : k ≤ s.size) (hs : s.size ≤ 65536) (w : World) (hm : w.cell? ⟨2, 0, none⟩ = some (.int .i64 ml)) :
    Calls Tryd.prog 17 #[.string s, .int .i64 (k : Int)] w fun e w' => GapEnd s k e ∧ Below w.heap.size w w' := by
  have HM := hide (show ∀ o, (w.alloc o).cell? ⟨2, 0, none⟩ = some (.int .i64 ml) from fun o => (((Below.refl w.heap.size w).alloc (Nat.le_refl _) o).cell (World.block_lt_of_cell? w _ hm)).trans hm)
  have HB := hide (show ∀ o, Below w.heap.size w (w.alloc o) from fun o => (Below.refl w.heap.size w).alloc (Nat.le_refl _) o)
  clear hm
  go_enter Tryd.func17, Tryd.ntmps17
  go_wp2
  go_loop [1] (fun i => ∃ m : Nat, i = .int .i64 (m : Int) ∧ Hid (Gone s k m)) (fun i => s.size - (intOf i).toNat)
  case atStart => exact ⟨k, rfl, hide ⟨Nat.le_refl _, hk, rfl⟩⟩
  case round =>
    obtain ⟨m, rfl, HH⟩ := hrel
    have hle := (unhide HH).2.1
    by_cases hlt : m < s.size
    · have hrun := run_tail s m (m : Int) rfl hle
      obtain ⟨u, hu⟩ : ∃ u, s.extract m s.size = u := ⟨_, rfl⟩
      have hul : u.data.toList = s.data.toList.drop m := by rw [← hu]; exact ext_drop s m
      rw [hu] at hrun
      have HUL := hide hul
      clear hu hul
      cases hb : isB (s[m].toNat : Int) with
      | true =>
        go_wp2_with (go_at_call 30; refine (isBlank_any _ _).mono ?_; rintro e w' ⟨rfl, rfl⟩; rw [hb])
        go_round
        case rel => exact ⟨m + 1, by go_num, hide ((unhide HH).step (gap_blank hlt hb)).1⟩
        case measure => simp [intOf]; omega
      | false =>
        cases hp : pre [47, 47] (s.data.toList.drop m) with
        | true =>
          have HP := hide (show Lib.hasPrefix u.data.toList (⟨#[47, 47]⟩ : ByteArray).data.toList = true by rw [unhide HUL]; exact hp)
          have HG := hide (gap_line hlt hb hp)
          have hst := (unhide HH).step (unhide HG)
          have hln : lnLen u.data.toList = lnLen (s.data.toList.drop m) := by rw [unhide HUL]
          obtain ⟨n, hn⟩ : ∃ n, lnLen (s.data.toList.drop m) = n := ⟨_, rfl⟩
          rw [hn] at hln hst
          have HST := hide hst
          have hbd := hst.1.2.1
          have hpos := hst.2
          clear hp hn hst
          go_wp2_with (first
            | (go_at_call 30; refine (isBlank_any _ _).mono ?_; rintro e w' ⟨rfl, rfl⟩; rw [hb])
            | (go_at_call 31; refine (Tryd.strings_HasPrefix u ⟨#[47, 47]⟩ _).mono ?_; rintro e w' ⟨rfl, rfl⟩; rw [unhide HP])
            | (go_at_call 32; refine (lineLength_any u _).mono ?_; rintro e w' ⟨rfl, rfl⟩; rw [hln]))
          go_round
          case rel => exact ⟨m + n, by go_num, hide (unhide HST).1⟩
          case measure => simp [intOf]; omega
        | false =>
          have HP := hide (show Lib.hasPrefix u.data.toList (⟨#[47, 47]⟩ : ByteArray).data.toList = false by rw [unhide HUL]; exact hp)
          cases hq : pre [47, 42] (s.data.toList.drop m) with
          | false =>
            have HQ := hide (show Lib.hasPrefix u.data.toList (⟨#[47, 42]⟩ : ByteArray).data.toList = false by rw [unhide HUL]; exact hq)
            have HG := hide (gap_not hlt hb hp hq)
            clear hp hq
            go_wp2_with (first
              | (go_at_call 30; refine (isBlank_any _ _).mono ?_; rintro e w' ⟨rfl, rfl⟩; rw [hb])
              | (go_at_call 31; refine (Tryd.strings_HasPrefix u _ _).mono ?_; rintro e w' ⟨rfl, rfl⟩; first | rw [unhide HP] | rw [unhide HQ]))
            refine bodyPost_ret (v := .tuple #[.int .i64 (m : Int), .agg #[.int .i64 0, .int .i64 0]]) (by simp [results, Tryd.results17, go_sem]) rfl ?_
            exact ⟨⟨m, unhide HH, .inr ⟨unhide HG, rfl⟩⟩, unhide HB _⟩
          | true =>
            have HQ := hide (show Lib.hasPrefix u.data.toList (⟨#[47, 42]⟩ : ByteArray).data.toList = true by rw [unhide HUL]; exact hq)
            have HG := hide (gap_comm hlt hb hp hq)
            have h2 := pre_two hq
            have hus : u.size = s.size - m := by rw [size_len, unhide HUL, len_drop]
            have hd2 : u.data.toList.drop 2 = s.data.toList.drop (m + 2) := by rw [unhide HUL, List.drop_drop]
            have HD2 := hide hd2
            have hu2 : 2 ≤ u.size := by omega
            have hu3 : u.size ≤ 65536 := by omega
            clear hp hq hd2 hus
            cases hc : cEnd (s.data.toList.drop (m + 2)) with
            | none =>
              have HC := hide hc
              clear hc
              go_wp2_with (first
                | (go_at_call 30; refine (isBlank_any _ _).mono ?_; rintro e w' ⟨rfl, rfl⟩; rw [hb])
                | (go_at_call 31; refine (Tryd.strings_HasPrefix u _ _).mono ?_; rintro e w' ⟨rfl, rfl⟩; first | rw [unhide HP] | rw [unhide HQ])
                | (go_at_call 33; refine (commentLength_any u ml hu2 hu3 _ (unhide HM _)).mono ?_; rintro e w' ⟨rfl, rfl⟩; rw [unhide HD2, unhide HC]; unfold cmV))
              refine bodyPost_ret (v := .tuple #[.int .i64 0, .agg #[.int .i64 7, .int .i64 (m : Int)]]) (by simp [results, Tryd.results17, go_sem]) rfl ?_
              exact ⟨⟨m, unhide HH, .inl ⟨by rw [unhide HG]; unfold cGap; rw [unhide HC], rfl⟩⟩, unhide HB _⟩
            | some n =>
              have HC := hide hc
              have hg2 : gapAt (s.data.toList.drop m) = .gap (n + 4) := by rw [unhide HG]; unfold cGap; rw [hc]
              have hst := (unhide HH).step hg2
              have HST := hide hst
              have hbd := hst.1.2.1
              clear hc hg2 hst
              go_wp2_with (first
                | (go_at_call 30; refine (isBlank_any _ _).mono ?_; rintro e w' ⟨rfl, rfl⟩; rw [hb])
                | (go_at_call 31; refine (Tryd.strings_HasPrefix u _ _).mono ?_; rintro e w' ⟨rfl, rfl⟩; first | rw [unhide HP] | rw [unhide HQ])
                | (go_at_call 33; refine (commentLength_any u ml hu2 hu3 _ (unhide HM _)).mono ?_; rintro e w' ⟨rfl, rfl⟩; rw [unhide HD2, unhide HC]; unfold cmV))
              go_round
              case rel => exact ⟨m + (n + 4), by go_num, hide (unhide HST).1⟩
              case measure => simp [intOf]; omega
    · go_wp2
      refine bodyPost_ret (v := .tuple #[.int .i64 (m : Int), .agg #[.int .i64 0, .int .i64 0]]) (by simp [results, Tryd.results17, go_sem]) rfl ?_
      exact ⟨⟨m, unhide HH, .inr ⟨by rw [drop_end s m (by omega)]; rfl, rfl⟩⟩, unhide HB _⟩
end Go.Proofs.YtbekkpfbjafagaaDoor
