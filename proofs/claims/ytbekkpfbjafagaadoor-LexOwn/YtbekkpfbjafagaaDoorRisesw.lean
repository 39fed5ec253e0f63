/- Walk of the law that tokens rise. -/
import Derived.Test.YtbekkpfbjafagaaDoorLxo
namespace Go.Proofs.YtbekkpfbjafagaaDoor
open Go.RowKit

def Ris (k n : Nat) : List Tok → Prop
  | [] => True
  | t :: l => k ≤ t.at_ ∧ t.at_ < n ∧ Ris (t.at_ + 1) n l
theorem Ris.mono {n : Nat} : ∀ {l : List Tok} {k j : Nat}, j ≤ k → Ris k n l → Ris j n l
  | [], _, _, _, _ => trivial
  | _ :: _, _, _, h, hr => ⟨Nat.le_trans h hr.1, hr.2⟩
theorem scan_ris : ∀ (m : Nat) (r : Txt) (k : Nat), r.length ≤ m → match scan k r with | .ok l => Ris k (k + r.length) l | .bad why a => why ≠ 0 ∧ a ≤ k + r.length := by
  intro m
  induction m with
  | zero =>
    intro r k h
    have : r = [] := List.eq_nil_of_length_eq_zero (by omega)
    subst this
    rw [scan_nil]; trivial
  | succ m ih =>
    intro r k h
    by_cases h0 : r = []
    · subst h0; rw [scan_nil]; trivial
    · cases hg : gapAt r with
      | never => rw [scan_never hg]; exact ⟨by decide, by omega⟩
      | gap n =>
        have hp := gap_pos hg
        have := ih (r.drop n) (k + n) (by rw [List.length_drop]; omega)
        rw [scan_gap hg]
        rw [List.length_drop, show k + n + (r.length - n) = k + r.length by omega] at this
        cases hs : scan (k + n) (r.drop n) with
        | ok l => rw [hs] at this; exact Ris.mono (by omega) this
        | bad w a => rw [hs] at this; exact this
      | none =>
        cases ht : tokAt r with
        | bad w o =>
          rw [scan_bad h0 hg ht]
          have := tok_bad ht
          exact ⟨this.1, by omega⟩
        | tok kd tx nm n =>
          have hp := tok_pos ht
          have := ih (r.drop n) (k + n) (by rw [List.length_drop]; omega)
          rw [scan_tok hg ht]
          rw [List.length_drop, show k + n + (r.length - n) = k + r.length by omega] at this
          cases hs : scan (k + n) (r.drop n) with
          | ok l => rw [hs] at this; exact ⟨Nat.le_refl _, by show k < _; omega, Ris.mono (by show k + 1 ≤ _; omega) this⟩
          | bad w a => rw [hs] at this; exact this
theorem lex_ris (l : Txt) : match lexP l with | .ok t => Ris 0 l.length t | .bad why a => why ≠ 0 ∧ a ≤ l.length := by
  unfold lexP
  by_cases h : 65536 < l.length
  · rw [if_pos h]; exact ⟨by decide, Nat.zero_le _⟩
  · rw [if_neg h]
    have := scan_ris l.length l 0 (Nat.le_refl _)
    rwa [Nat.zero_add] at this
theorem tokens_all (s : ByteArray) (hs : s.size ≤ 140737488355328) (w : World) (hE : Env w) :
    Calls Tryd.prog 9 #[.string s] w fun e w' => TokAns (lexP s.data.toList) w w' e := by
  by_cases h : 65536 < s.size
  · exact tokens_long s h hs w
  · exact tokens_any s (by omega) w hE

theorem tk_row {w : World} {g cap : Nat} {toks : List Tok} (h : RowAt w g cap toks) {i : Nat} {t : Tok} (hi : toks[i]? = some t) :
    (tkLoad (.pointer (some ⟨g, i * 4, none⟩))).run Tryd.prog w = .ok (.agg #[.int .i64 t.kind, str t.text, .int .i64 t.num, .int .i64 (t.at_ : Int)]) w := by
  refine run_loadAt_mid w g (i * 4) 32 [.int .i64 t.kind, str t.text, .int .i64 t.num, .int .i64 (t.at_ : Int)] _ (fun q v hq => ?_) Tryd.underlying32 rfl size_tk
  obtain ⟨c0, c1, c2, c3⟩ := h.cells i t hi
  match q, hq with
  | 0, hq => simp at hq; subst hq; exact c0
  | 1, hq => simp at hq; subst hq; exact c1
  | 2, hq => simp at hq; subst hq; exact c2
  | 3, hq => simp at hq; subst hq; exact c3
theorem tk_new (w : World) (k n a : Int) (t : ByteArray) : (tkStore (.pointer (some ⟨w.heap.size, 0, none⟩)) (.agg #[.int .i64 k, .string t, .int .i64 n, .int .i64 a])).run Tryd.prog (w.alloc tokZ) = .ok () (w.alloc (.cells #[.int .i64 k, .string t, .int .i64 n, .int .i64 a] 32)) :=
  run_storeAt_new w 32 _ _ size_tk rfl (by simp [Value.oneCell'])

/-- At a round's head. -/
def RsRel (n : Nat) (toks : List Tok) (w : World) (g cap : Nat) (a i : Value) (wr : World) : Prop :=
  ∃ (j lo : Nat), i = .int .i64 (j : Int) ∧ a = .int .i64 ((lo : Int) - 1) ∧ j ≤ toks.length ∧ lo ≤ n ∧ Hid (Below w.heap.size w wr ∧ RowAt wr g cap toks ∧ Ris lo n (toks.drop j))

attribute [local go_sem ↓] storeAt_tk loadAt_tk
set_option maxRecDepth 100000 in
set_option maxHeartbeats 4000000 in
theorem rises_walk (s : ByteArray) (hs : s.size ≤ 140737488355328) (w : World) (hE : Env w) : Calls Tryd.prog 5 #[.string s] w fun e w' => e = .returned (.bool true) ∧ Below w.heap.size w w' := by
  have HT := hide (tokens_all s hs w hE)
  have HE := hide hE
  have HRS := hide (lex_ris s.data.toList)
  clear hE
  go_enter Tryd.func5, Tryd.ntmps5
  go_wp2_with fail
  refine (unhide HT).mono ?_
  rintro e w1 ⟨v, rfl, hown, b1⟩
  clear HT
  have hE1 := (unhide HE).later b1
  have HE1 := hide (hE1.later ((Below.refl w1.heap.size w1).alloc (Nat.le_refl _) (.cells #[.int .i64 (lexP s.data.toList).why, .int .i64 (lexP s.data.toList).fa] 25)))
  have HB1 := hide (b1.alloc b1.size (.cells #[.int .i64 (lexP s.data.toList).why, .int .i64 (lexP s.data.toList).fa] 25))
  rw [← size_len] at HRS
  cases ho : lexP s.data.toList with
  | bad why a =>
    rw [ho] at HRS hown HE1 HB1
    have hwz : (why == 0) = false := beq_eq_false_iff_ne.2 (unhide HRS).1
    have hle := (unhide HRS).2
    obtain ⟨ao, cap, rfl⟩ : ∃ ao cap, v = .slice ao 0 cap := by
      rcases hown.2 with h | ⟨g, cap, cur, hv, _⟩
      · exact ⟨_, _, h.1⟩
      · exact ⟨_, _, hv⟩
    clear hown b1 hE1
    simp only [Out.why, Out.fa] at HE1 HB1 ⊢
    go_wp2_with fail
    refine (alive_any _ (unhide HE1)).mono ?_
    rintro e w2 ⟨rfl, hb⟩
    go_wp2_with fail
    go_ret
    exact ⟨rfl, (unhide HB1).trans (hb.mono (unhide HB1).size)⟩
  | ok toks =>
    rw [ho] at HRS hown HE1 HB1
    simp only [Out.why, Out.fa, Out.toks] at HE1 HB1 hown ⊢
    rcases row_of hown with ⟨rfl, rfl⟩ | ⟨g, cap, rfl, hrow⟩
    · clear hown b1 hE1
      go_wp2_with fail
      go_loop [36] (fun i => i = .int .i64 0) (fun _ => 0)
      case atStart => rfl
      case round =>
        subst hrel
        go_wp2_with fail
        refine (alive_any _ (unhide HE1)).mono ?_
        rintro e w2 ⟨rfl, hb⟩
        go_wp2_with fail
        go_ret
        exact ⟨rfl, (unhide HB1).trans (hb.mono (unhide HB1).size)⟩
    · have hcl := hrow.le
      have hcm := hrow.cm
      unfold maxLen at hcm
      have HROW := hide (hrow.later ((Below.refl w1.heap.size w1).alloc (Nat.le_refl _) (.cells #[.int .i64 0, .int .i64 0] 25)))
      clear hown b1 hE1 hrow HE1
      obtain ⟨n, hn⟩ : ∃ n, toks.length = n := ⟨_, rfl⟩
      rw [hn] at hcl ⊢
      have HN := hide hn
      clear hn
      go_wp2_with fail
      obtain ⟨W1, hW1⟩ : ∃ W1, w1.alloc (.cells #[.int .i64 0, .int .i64 0] 25) = W1 := ⟨_, rfl⟩
      rw [hW1] at HROW HB1
      rw [hW1]
      clear hW1
      go_loopw [5, 36] (fun a i wr => RsRel s.size toks w g cap a i wr) (fun _ i _ => n - (intOf i).toNat)
      case atStart => exact ⟨0, 0, rfl, rfl, Nat.zero_le _, Nat.zero_le _, hide ⟨unhide HB1, unhide HROW, unhide HRS⟩⟩
      case round =>
        obtain ⟨j, lo, rfl, rfl, hj, hlo, HH⟩ := hrel
        rw [unhide HN] at hj
        by_cases hlt : j < n
        · obtain ⟨t, ht⟩ : ∃ t, toks[j]? = some t := ⟨toks[j]'(by rw [unhide HN]; exact hlt), List.getElem?_eq_getElem _⟩
          have hr := (unhide HH).2.2
          have hdr : toks.drop j = t :: toks.drop (j + 1) := by
            obtain ⟨h1, h2⟩ := List.getElem?_eq_some_iff.1 ht
            rw [List.drop_eq_getElem_cons h1, h2]
          rw [hdr] at hr
          have hld := tk_row (unhide HH).2.1 ht
          have hst := tk_new wr t.kind t.num (t.at_ : Int) ⟨t.text.toArray⟩
          have HR2 := hide hr.2.2
          have h1 := hr.1
          have h2 := hr.2.1
          have HNX := hide (show Below w.heap.size w (wr.alloc (.cells #[.int .i64 t.kind, .string ⟨t.text.toArray⟩, .int .i64 t.num, .int .i64 (t.at_ : Int)] 32)) ∧ RowAt (wr.alloc (.cells #[.int .i64 t.kind, .string ⟨t.text.toArray⟩, .int .i64 t.num, .int .i64 (t.at_ : Int)] 32)) g cap toks from
            ⟨(unhide HH).1.alloc (unhide HH).1.size _, (unhide HH).2.1.later ((Below.refl wr.heap.size wr).alloc (Nat.le_refl _) _)⟩)
          clear hr hdr ht HH
          go_wp2_with fail
          go_roundw
          case rel => exact ⟨j + 1, t.at_ + 1, by go_num, congrArg (Value.int .i64) (by omega), by rw [unhide HN]; omega, by omega, hide ⟨(unhide HNX).1, (unhide HNX).2, unhide HR2⟩⟩
          case measure => simp [intOf]; omega
        · have hb := (unhide HH).1
          have HE2 := hide ((unhide HE).later hb)
          go_wp2_with fail
          refine (alive_any _ (unhide HE2)).mono ?_
          rintro e w2 ⟨rfl, hb2⟩
          go_wp2_with fail
          go_ret
          exact ⟨rfl, hb.trans (hb2.mono hb.size)⟩
end Go.Proofs.YtbekkpfbjafagaaDoor
