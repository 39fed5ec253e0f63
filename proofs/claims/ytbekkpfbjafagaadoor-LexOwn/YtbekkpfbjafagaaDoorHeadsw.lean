/- Walk of the law on heads. -/
import Derived.Test.YtbekkpfbjafagaaDoorLxt
namespace Go.Proofs.YtbekkpfbjafagaaDoor
open Go.RowKit

theorem RowAt.take {w : World} {g cap : Nat} {toks : List Tok} (h : RowAt w g cap toks) (i : Nat) : RowAt w g cap (toks.take i) :=
  ⟨h.lt, by rw [List.length_take]; have := h.le; omega, h.cm, fun j t hj => h.cells j t (by
    rw [List.getElem?_take] at hj
    split at hj
    · exact hj
    · cases hj)⟩
theorem alike_refl (p : Bool) (l : List Tok) : ∀ (i : Nat) (x y : Tok), l[i]? = some x → l[i]? = some y → Alike p x y := fun i x y h1 h2 => by
  rw [h1] at h2
  injection h2 with h2
  subst h2
  exact ⟨rfl, rfl, rfl, fun _ => rfl⟩
theorem ris_len {n : Nat} : ∀ {l : List Tok} {k : Nat}, k ≤ n → Ris k n l → k + l.length ≤ n
  | [], k, hk, _ => by simpa using hk
  | t :: l, k, _, hr => by
    have := ris_len (l := l) (k := t.at_ + 1) (by have := hr.2.1; omega) hr.2.2
    have h1 := hr.1
    simp only [List.length_cons]; omega
theorem slice_of {w : World} {B : Nat} {v : Value} (h : w.ownsRow B 32 4 v 0 (tokCells [])) : ∃ ao cap, v = .slice ao 0 cap := by
  rcases h.2 with h | ⟨g, cap, cur, hv, _⟩
  · exact ⟨_, _, h.1⟩
  · exact ⟨_, _, hv⟩
/-- The index that the laws reckon. -/
theorem idx_of (a : Int) {n : Nat} (hn : 0 < n) : ∃ (b : Int) (i : Nat), a.tmod (n : Int) = b ∧ -(n : Int) < b ∧ b < (n : Int) ∧ (b + (n : Int)).tmod (n : Int) = (i : Int) ∧ i < n := by
  have h1 : (a.tmod (n : Int)).natAbs < n := by
    have := Int.natAbs_tmod a (n : Int)
    rw [this]
    exact Nat.mod_lt _ (by omega)
  refine ⟨a.tmod n, ((a.tmod n + n).tmod n).toNat, rfl, by omega, by omega, ?_, ?_⟩
  · have : 0 ≤ (a.tmod n + (n : Int)).tmod n := Int.tmod_nonneg _ (by omega)
    omega
  · have : (a.tmod n + (n : Int)).tmod n < n := Int.tmod_lt_of_pos _ (by omega)
    omega
theorem run_head (s : ByteArray) (k : Nat) (hk : k ≤ s.size) (w : World) :
    (Instr.slice 9 (.string s) none (some (.int .i64 (k : Int))) none).run Tryd.prog w = .ok (.string (s.extract 0 k)) w := by
  have := run_slice_string_h (P := Tryd.prog) w 9 s Tryd.underlying9 .i64 (k : Int) (by omega) (by omega)
  rwa [Int.toNat_natCast] at this
theorem ext_head (s : ByteArray) (k : Nat) : (s.extract 0 k).data.toList = s.data.toList.take k := by
  have := ext_piece s 0 k
  rwa [Nat.zero_add, List.drop_zero] at this

set_option maxRecDepth 100000 in
set_option maxHeartbeats 4000000 in
theorem heads_walk (s : ByteArray) (a : Int) (hs : s.size ≤ 140737488355328) (ha : -9223372036854775808 ≤ a ∧ a ≤ 9223372036854775807) (w : World) (hE : Env w) : Calls Tryd.prog 7 #[.string s, .int .i64 a] w fun e w' => e = .returned (.bool true) ∧ Below w.heap.size w w' := by
  have HT := hide (tokens_all s hs w hE)
  have HE := hide hE
  obtain ⟨a1, a2⟩ := ha
  clear hE
  go_enter Tryd.func7, Tryd.ntmps7
  go_wp2_with fail
  refine (unhide HT).mono ?_
  rintro e w1 ⟨v, rfl, hown, b1⟩
  clear HT
  have hE1 := (unhide HE).later b1
  have HE1 := hide (hE1.later ((Below.refl w1.heap.size w1).alloc (Nat.le_refl _) (.cells #[.int .i64 (lexP s.data.toList).why, .int .i64 (lexP s.data.toList).fa] 25)))
  have HB1 := hide (b1.alloc b1.size (.cells #[.int .i64 (lexP s.data.toList).why, .int .i64 (lexP s.data.toList).fa] 25))
  have HRS := hide (lex_ris s.data.toList)
  cases ho : lexP s.data.toList with
  | bad why fa =>
    rw [ho] at HRS hown HE1 HB1
    have hwz : (why == 0) = false := beq_eq_false_iff_ne.2 (unhide HRS).1
    clear hown b1 hE1 HRS
    simp only [Out.why, Out.fa] at HE1 HB1 ⊢
    go_wp2_with fail
    refine (alive_any _ (unhide HE1)).mono ?_
    rintro e w2 ⟨rfl, hb⟩
    go_wp2_with fail
    go_ret
    exact ⟨rfl, (unhide HB1).trans (hb.mono (unhide HB1).size)⟩
  | ok toks =>
    rw [ho] at HRS hown HE1 HB1
    simp only [Out.why, Out.fa, Out.toks] at HE1 HB1 hown ⊢
    by_cases h0 : toks = []
    · subst h0
      obtain ⟨ao, cap, rfl⟩ := slice_of hown
      clear hown b1 hE1 HRS
      go_wp2_with fail
      refine (alive_any _ (unhide HE1)).mono ?_
      rintro e w2 ⟨rfl, hb⟩
      go_wp2_with fail
      go_ret
      exact ⟨rfl, (unhide HB1).trans (hb.mono (unhide HB1).size)⟩
    · obtain ⟨g, cap, rfl, hrow⟩ : ∃ g cap, v = .slice (some ⟨g, 0, none⟩) toks.length cap ∧ RowAt w1 g cap toks := by
        rcases row_of hown with h | h
        · exact absurd h.2 h0
        · exact h
      obtain ⟨n, hn⟩ : ∃ n, toks.length = n := ⟨_, rfl⟩
      have hn0 : 0 < n := by rw [← hn]; exact List.length_pos_iff.2 h0
      obtain ⟨b, i, hb, b2, b3, hi, hin⟩ := idx_of a hn0
      obtain ⟨t, ht⟩ : ∃ t, toks[i]? = some t := ⟨toks[i]'(by omega), List.getElem?_eq_getElem _⟩
      obtain ⟨hat, hlp⟩ := heads_pure ho ht
      have hnl := ris_len (Nat.zero_le _) (unhide HRS)
      rw [hn, Nat.zero_add, ← size_len] at hnl
      rw [← size_len] at hat
      have hcl := hrow.le
      rw [hn] at hcl
      have hcm := hrow.cm
      unfold maxLen at hcm
      have hrow1 := hrow.later ((Below.refl w1.heap.size w1).alloc (Nat.le_refl _) fltZ)
      have c3 : ∀ o, (w1.alloc o).cell? ⟨g, i * 4 + 3, none⟩ = some (.int .i64 (t.at_ : Int)) := fun o => (World.cell?_alloc_lt w1 o _ hrow.lt).trans (hrow.cells i t ht).2.2.2
      have h0' : ((n : Int) == 0) = false := by rw [beq_eq_false_iff_ne]; omega
      have hrun := run_head s t.at_ (by omega)
      obtain ⟨u, hu⟩ : ∃ u, s.extract 0 t.at_ = u := ⟨_, rfl⟩
      have hul : u.data.toList = s.data.toList.take t.at_ := by rw [← hu]; exact ext_head s t.at_
      have hus : u.size ≤ 140737488355328 := by rw [size_len, hul, List.length_take, ← size_len]; omega
      rw [hu] at hrun
      rw [← hul] at hlp
      have HT2 := hide (tokens_all u hus (w1.alloc fltZ) (unhide HE1))
      rw [hlp] at HT2
      have HR1 := hide hrow1
      have HN := hide hn
      rw [hn]
      clear hown b1 hE1 hrow hrow1 hu hul hlp ht hn ho HRS h0
      go_wp2_with fail
      refine (unhide HT2).mono ?_
      rintro e w2 ⟨v2, rfl, hown2, b4⟩
      simp only [Out.why, Out.fa, Out.toks] at hown2 ⊢
      have b4' : Below (w1.heap.size + 1) (w1.alloc fltZ) w2 := by simpa using b4
      have hr2 := (unhide HR1).later b4
      have hfb := hide (hr2.later ((Below.refl w2.heap.size w2).alloc (Nat.le_refl _) fltZ))
      have hs1 := hide ((slAt_of hown2).later ((Below.refl w2.heap.size w2).alloc (Nat.le_refl _) fltZ))
      have hB2 := hide (((unhide HB1).trans (b4.mono (unhide HB1).size)).alloc ((unhide HB1).trans (b4.mono (unhide HB1).size)).size fltZ)
      have hlen : (toks.take i).length = i := by rw [List.length_take, unhide HN]; omega
      have hs2 : SlAt (w2.alloc fltZ) (.slice (some ⟨g, 0, none⟩) i cap) (toks.take i) := ⟨_, cap, by rw [hlen], by rw [hlen]; omega, by unfold maxLen; omega, .inr ⟨g, rfl, (unhide hfb).take i⟩⟩
      have HS2 := hide hs2
      clear hown2 b4 b4' hr2 hlen hs2 hfb HT2
      go_wp2_with fail
      refine (same_any true _ _ _ _ _ (unhide HS2) (unhide hs1) rfl (alike_refl true _)).mono ?_
      rintro e w3 ⟨rfl, b5⟩
      have b6 := (unhide hB2).trans (b5.mono (unhide hB2).size)
      have hE3 := (unhide HE).later b6
      go_wp2_with fail
      refine (alive_any _ hE3).mono ?_
      rintro e w4 ⟨rfl, b7⟩
      go_wp2_with fail
      go_ret
      exact ⟨rfl, b6.trans (b7.mono b6.size)⟩
end Go.Proofs.YtbekkpfbjafagaaDoor
