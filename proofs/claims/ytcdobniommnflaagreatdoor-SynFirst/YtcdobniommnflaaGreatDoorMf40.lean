/- Walk of the law on the first wrong token. What stands behind a token's place has no part in what is read ahead of it: plain facts on lists of bytes; no program stands in it. A token, and a gap, hang on nothing behind them: plain facts; no program stands in it. -/
import Derived.Test.YtcdobniommnflaaGreatDoorMf39
import Derived.Test.YtcdobniommnflaaGreatDoorMf30
import Derived.Test.YtcdobniommnflaaGreatDoorMf36
namespace Go.Proofs.YtcdobniommnflaaGreatDoor
open Go.RowKit Go.Maps

set_option maxRecDepth 100000 in
set_option maxHeartbeats 4000000 in
theorem rtokens_big (s : ByteArray) (hl : 65536 < s.size) (hs : s.size ≤ 281474976710656) (w : World) :
    Calls Tryz.prog 14 #[.string s] w fun e w' => TokAns (lexP s.data.toList) w w' e := by
  have H := hide (show lexP s.data.toList = .bad 2 0 by unfold lexP; rw [← size_len, if_pos hl])
  go_enter Tryz.func14, Tryz.ntmps14
  go_wp2_with fail
  refine (fault_any _ _ _).mono ?_
  rintro e w2 ⟨rfl, b2⟩
  have b2' : Below (w.heap.size + 1) (w.alloc fltZ) w2 := by simpa using b2
  have hb : w2.heap[w.heap.size]? = some fltZ := by rw [b2'.block _ (by omega)]; exact heap_alloc_new w _
  have y0 : w2.cell? ⟨w.heap.size, 0, none⟩ = some (.int .i64 0) := by rw [Lib.cell_of_heap hb]; rfl
  have y1 : w2.cell? ⟨w.heap.size, 1, none⟩ = some (.int .i64 0) := by rw [Lib.cell_of_heap hb]; rfl
  have fy : ∀ o, w2.frozen? ⟨w.heap.size, o, none⟩ = false := fun o => Lib.frozen_of_heap hb o
  have bw : Below w.heap.size w w2 := ((Below.refl w.heap.size w).alloc (Nat.le_refl _) _).trans (b2'.mono (by omega))
  clear b2 b2' hb
  go_wp2_with fail
  refine bodyPost_ret (v := .tuple #[.slice none 0 0, .agg #[.int .i64 2, .int .i64 0]]) (by simp [results, Tryz.results14, go_sem, y0, y1]) rfl ?_
  rw [unhide H]
  exact ⟨_, rfl, World.ownsRow_nil _ _ _ _, (bw.setCell (p := ⟨w.heap.size, 0, none⟩) (Nat.le_refl _) _).setCell (p := ⟨w.heap.size, 1, none⟩) (Nat.le_refl _) _⟩
theorem rtokens_all (s : ByteArray) (hs : s.size ≤ 281474976710656) (w : World) :
    Calls Tryz.prog 14 #[.string s] w fun e w' => TokAns (lexP s.data.toList) w w' e := by
  by_cases h : 65536 < s.size
  · exact rtokens_big s h hs w
  · exact rtokens_any s (by omega) w
theorem SlAt.take {w : World} {a : Option Addr} {c n : Nat} {l : List Tok} (h : SlAt w (.slice a l.length c) l) (hn : n ≤ l.length) : SlAt w (.slice a n c) (l.take n) := by
  obtain ⟨ao, cap, e, h1, h2, h3⟩ := h
  cases e
  have hl : (l.take n).length = n := by rw [List.length_take]; omega
  refine ⟨a, c, by rw [hl], by rw [hl]; omega, h2, ?_⟩
  rcases h3 with h3 | ⟨g, hg, hr⟩
  · exact .inl (by rw [h3]; simp)
  · refine .inr ⟨g, hg, hr.lt, by rw [hl]; omega, hr.cm, fun i t ht => hr.cells i t ?_⟩
    rw [List.getElem?_take] at ht
    split at ht
    · exact ht
    · cases ht
set_option maxRecDepth 100000 in
set_option maxHeartbeats 8000000 in
/-- Where nothing is asked. -/
theorem first_off (s z : ByteArray) (w : World) (hE : Env w) (hs : s.size ≤ 140737488355328) (hn : ∀ a r, parseP s.data.toList = .bad 10 a r → (s.size : Int) ≤ a) :
    Calls Tryz.prog 4 #[.string s, .string z] w fun e w' => e = .returned (.bool true) ∧ Below w.heap.size w w' := by
  have hp := parse_any s hs w hE
  have HE := hide hE
  clear hE
  cases hq : parseP s.data.toList with
  | ok p l4 i4 =>
    rw [hq] at hp
    clear hq hn
    go_enter Tryz.func4, Tryz.ntmps4
    go_wp2_with fail
    refine hp.mono ?_
    clear hp
    rintro e w1 ⟨_, rfl, ⟨a0, n0, q0, a1, n1, q1, a2, n2, q2, a3, n3, q3, a4, n4, q4, rfl, hP⟩, b1⟩
    have b3 : Below w.heap.size w ((w1.alloc (.cells #[.slice a0 n0 q0, .slice a1 n1 q1, .slice a2 n2 q2, .slice a3 n3 q3, .slice a4 n4 q4] 28)).alloc (.cells #[.int .i64 0, .int .i64 0] 31)) := (b1.alloc b1.size _).alloc (by simp; have := b1.size; omega) _
    have HEV := hide ((unhide HE).later b3)
    have HBW := hide b3
    clear hP b1 b3
    have hal := alive9_any _ (unhide HEV)
    go_wp2_with fail
    refine hal.mono ?_
    clear hal
    rintro en w9 ⟨rfl, b9⟩
    have B9 := hide b9
    clear b9
    go_wp2_with fail
    go_ret
    exact ⟨rfl, (unhide HBW).trans ((unhide B9).mono (unhide HBW).size)⟩
  | bad why at1 r =>
    rw [hq] at hp
    have hx : (why != 10) = true ∨ (why == 10) = true ∧ (s.size : Int) ≤ at1 := by
      by_cases h : why = 10
      · subst h; exact .inr ⟨rfl, hn at1 r hq⟩
      · exact .inl (bne_iff_ne.2 h)
    clear hq hn
    go_enter Tryz.func4, Tryz.ntmps4
    go_wp2_with fail
    refine hp.mono ?_
    clear hp
    rintro e w1 ⟨rfl, b1⟩
    have b3 : Below w.heap.size w ((w1.alloc (.cells #[.slice none 0 0, .slice none 0 0, .slice none 0 0, .slice none 0 0, .slice none 0 0] 28)).alloc (.cells #[.int .i64 why, .int .i64 at1] 31)) := (b1.alloc b1.size _).alloc (by simp; have := b1.size; omega) _
    have HEV := hide ((unhide HE).later b3)
    have HBW := hide b3
    clear b1 b3
    rcases hx with hx | ⟨hx, hy⟩
    · have hal := alive9_any _ (unhide HEV)
      go_wp2_with fail
      refine hal.mono ?_
      clear hal
      rintro en w9 ⟨rfl, b9⟩
      have B9 := hide b9
      clear b9
      go_wp2_with fail
      go_ret
      exact ⟨rfl, (unhide HBW).trans ((unhide B9).mono (unhide HBW).size)⟩
    · obtain rfl : why = 10 := by simpa using hx
      clear hx
      have hal := alive9_any _ (unhide HEV)
      go_wp2_with fail
      refine hal.mono ?_
      clear hal
      rintro en w9 ⟨rfl, b9⟩
      have B9 := hide b9
      clear b9
      go_wp2_with fail
      go_ret
      exact ⟨rfl, (unhide HBW).trans ((unhide B9).mono (unhide HBW).size)⟩
end Go.Proofs.YtcdobniommnflaaGreatDoor

namespace Go.Proofs.YtcdobniommnflaaGreatDoor

/-- Nothing, or a blank first. -/
def Tail (x : Txt) : Prop := ∀ b y, x = b :: y → isB (bv b) = true
theorem blank_cases {b : UInt8} (h : isB (bv b) = true) : b = 32 ∨ b = 9 ∨ b = 10 ∨ b = 13 := by
  simp only [isB, Bool.or_eq_true, decide_eq_true_eq] at h
  rcases h with ((h | h) | h) | h
  · exact .inl ((bv_eq (k := 32) (by omega)).1 h)
  · exact .inr (.inl ((bv_eq (k := 9) (by omega)).1 h))
  · exact .inr (.inr (.inl ((bv_eq (k := 10) (by omega)).1 h)))
  · exact .inr (.inr (.inr ((bv_eq (k := 13) (by omega)).1 h)))
theorem blank_out {b : UInt8} (h : isB (bv b) = true) : inW (bv b) = false := by
  rcases blank_cases h with rfl | rfl | rfl | rfl <;> decide
theorem tail_noW {x : Txt} (h : Tail x) : noW x = true := by
  cases x with
  | nil => rfl
  | cons b y => simp [noW, blank_out (h b y rfl)]
theorem tail_nm {x : Txt} (h : Tail x) : nmLen x = 0 := by
  cases x with
  | nil => rfl
  | cons b y =>
    refine nm_stop (blank_out (h b y rfl)) (fun _ _ _ e => ?_)
    subst e
    exact absurd (h 46 y rfl) (by decide)

/-- z is r up to p, and then x. -/
structure Cy (r z x : Txt) (p : Nat) : Prop where
  ez : z = r.take p ++ x
  hp : p ≤ r.length
  ht : Tail x
/-- .. and a word at its head is whole. -/
structure Cz (r z x : Txt) (p : Nat) : Prop extends Cy r z x p where
  hw : 0 < p → ∀ c t, r = c :: t → isL (bv c) = true → nmLen r ≤ p

theorem Cy.cases {r z x : Txt} {p : Nat} (h : Cy r z x p) : (p = 0 ∧ z = x) ∨ (∃ c t, p = 1 ∧ r = c :: t ∧ z = c :: x) ∨ (∃ c d u q, p = q + 2 ∧ r = c :: d :: u ∧ z = c :: d :: (u.take q ++ x)) := by
  obtain ⟨rfl, hp, _⟩ := h
  match p, r, hp with
  | 0, _, _ => exact .inl ⟨rfl, rfl⟩
  | 1, c :: t, _ => exact .inr (.inl ⟨c, t, rfl, rfl, rfl⟩)
  | q + 2, c :: d :: u, _ => exact .inr (.inr ⟨c, d, u, q, rfl, rfl, rfl⟩)
  | q + 2, [c], hp => simp at hp
theorem Cz.nW {r z x : Txt} {p : Nat} (h : Cz r z x p) (hn : noW r = true) : noW z = true := by
  rcases h.cases with ⟨_, rfl⟩ | ⟨c, t, _, rfl, rfl⟩ | ⟨c, d, u, q, _, rfl, rfl⟩
  · exact tail_noW h.ht
  · exact hn
  · exact hn
theorem Cz.nm {r z x : Txt} {p : Nat} (h : Cz r z x p) (hn : nmLen r = 0) : nmLen z = 0 := by
  rcases h.cases with ⟨_, rfl⟩ | ⟨c, t, _, rfl, rfl⟩ | ⟨c, d, u, q, _, rfl, rfl⟩
  · exact tail_nm h.ht
  · have hc : inW (bv c) = false := by
      cases hc : inW (bv c) with
      | false => rfl
      | true => rw [nm_in hc] at hn; omega
    refine nm_stop hc (fun d u hx _ => ?_)
    have := blank_out (h.ht d u hx)
    cases hd : isL (bv d) with
    | false => rfl
    | true => rw [inW_L hd] at this; cases this
  · have hc : inW (bv c) = false := by
      cases hc : inW (bv c) with
      | false => rfl
      | true => rw [nm_in hc] at hn; omega
    refine nm_stop hc (fun d' u' hx e => ?_)
    injection hx with hd _
    subst hd e
    cases hd : isL (bv d) with
    | false => rfl
    | true => rw [nm_dot hd] at hn; omega

theorem nm_app : ∀ (a b : Txt), nmLen (a ++ b) = a.length → ∀ z, nmLen (a ++ z) = a.length + nmLen z
  | [], _, _, z => by simp
  | [c], b, h, z => by
    cases hc : inW (bv c) with
    | true => show nmLen (c :: z) = _; rw [nm_in hc]; simp; omega
    | false =>
      exfalso
      cases b with
      | nil => simp [nmLen, hc] at h
      | cons d u =>
        have h : nmLen (c :: d :: u) = 1 := h
        rw [nmLen, if_neg (by simp [hc])] at h
        split at h <;> omega
  | c :: d :: a, b, h, z => by
    have h : nmLen (c :: d :: (a ++ b)) = a.length + 2 := h
    show nmLen (c :: d :: (a ++ z)) = a.length + 2 + nmLen z
    cases hc : inW (bv c) with
    | true =>
      rw [nm_in hc] at h ⊢
      have := nm_app (d :: a) b (by show nmLen (d :: (a ++ b)) = a.length + 1; omega) z
      have this : nmLen (d :: (a ++ z)) = a.length + 1 + nmLen z := this
      omega
    | false =>
      rw [nmLen, if_neg (by simp [hc])] at h ⊢
      split at h
      · rename_i hd
        rw [if_pos hd]
        have := nm_app a b (by omega) z
        omega
      · omega
theorem dcn_app : ∀ (a b : Txt), dcn (a ++ b) = a.length → ∀ z, dcn (a ++ z) = a.length + dcn z
  | [], _, _, z => by simp
  | c :: a, b, h, z => by
    have h : dcn (c :: (a ++ b)) = a.length + 1 := h
    show dcn (c :: (a ++ z)) = a.length + 1 + dcn z
    cases hc : isD (bv c) with
    | true =>
      have e1 : ∀ l : Txt, dcn (c :: l) = dcn l + 1 := fun l => by simp [dcn, hc]
      rw [e1] at h ⊢
      have := dcn_app a b (by omega) z
      omega
    | false =>
      have e1 : dcn (c :: (a ++ b)) = 0 := by simp [dcn, hc]
      omega
theorem dcn_noW {z : Txt} (h : noW z = true) : dcn z = 0 := by
  cases z with
  | nil => rfl
  | cons c t =>
    have : inW (bv c) = false := by simpa [noW] using h
    have hd : isD (bv c) = false := by
      cases hd : isD (bv c) with
      | false => rfl
      | true => rw [inW_D hd] at this; cases this
    simp [dcn, hd]
theorem tx_app : ∀ (a b v : Txt), txScan (a ++ b) = .ok v a.length → ∀ z, txScan (a ++ z) = .ok v a.length
  | [], b, v, h, z => by
    have := (tx_pos b v 0 h).1
    omega
  | [c], b, v, h, z => by
    have h : txScan (c :: b) = .ok v 1 := h
    show txScan (c :: z) = .ok v 1
    by_cases h1 : c = 34
    · subst h1; rw [tx_quote] at h ⊢; exact h
    · exfalso
      by_cases h2 : c = 10
      · subst h2; rw [tx_line] at h; cases h
      · by_cases h3 : c = 92
        · subst h3
          cases b with
          | nil => simp [txScan] at h
          | cons d u =>
            cases he : esc d with
            | none => rw [tx_noesc _ (fun d' u' e => by injection e with e _; rw [← e]; exact he)] at h; cases h
            | some q =>
              rw [tx_esc he] at h
              cases ht : txScan u with
              | ok v' n' => rw [ht] at h; injection h with _ h; omega
              | bad o => rw [ht] at h; cases h
              | never => rw [ht] at h; cases h
        · rw [tx_plain h1 h2 h3] at h
          cases ht : txScan b with
          | ok v' n' =>
            rw [ht] at h
            have := (tx_pos b v' n' ht).1
            injection h with _ h
            omega
          | bad o => rw [ht] at h; cases h
          | never => rw [ht] at h; cases h
  | c :: d :: a, b, v, h, z => by
    have h : txScan (c :: d :: (a ++ b)) = .ok v (a.length + 2) := h
    show txScan (c :: d :: (a ++ z)) = .ok v (a.length + 2)
    by_cases h1 : c = 34
    · subst h1; rw [tx_quote] at h; cases h
    · by_cases h2 : c = 10
      · subst h2; rw [tx_line] at h; cases h
      · by_cases h3 : c = 92
        · subst h3
          cases he : esc d with
          | none => rw [tx_noesc _ (fun d' u' e => by injection e with e _; rw [← e]; exact he)] at h; cases h
          | some q =>
            rw [tx_esc he] at h ⊢
            cases ht : txScan (a ++ b) with
            | ok v' n' =>
              rw [ht] at h
              injection h with hv hn
              have := tx_app a b v' (by rw [ht]; congr 1; omega) z
              rw [this]
              show TR.ok (q :: v') (a.length + 2) = _
              rw [hv]
            | bad o => rw [ht] at h; cases h
            | never => rw [ht] at h; cases h
        · rw [tx_plain h1 h2 h3] at h ⊢
          cases ht : txScan (d :: (a ++ b)) with
          | ok v' n' =>
            rw [ht] at h
            injection h with hv hn
            have := tx_app (d :: a) b v' (by show txScan (d :: (a ++ b)) = .ok v' (a.length + 1); rw [ht]; congr 1; omega) z
            have this : txScan (d :: (a ++ z)) = .ok v' (a.length + 1) := this
            rw [this]
            show TR.ok (c :: v') (a.length + 1 + 1) = _
            rw [hv]
          | bad o => rw [ht] at h; cases h
          | never => rw [ht] at h; cases h
end Go.Proofs.YtcdobniommnflaaGreatDoor

namespace Go.Proofs.YtcdobniommnflaaGreatDoor

theorem pre_cons {c d : UInt8} {p r : Txt} : pre (c :: p) (d :: r) = (c == d && pre p r) := rfl
theorem pre_nil {r : Txt} : pre [] r = true := by cases r <;> rfl
theorem pre_none {c : UInt8} {p : Txt} : pre (c :: p) [] = false := rfl
theorem pre_append : ∀ (p a b : Txt), p.length ≤ a.length → pre p (a ++ b) = pre p a
  | [], a, b, _ => by rw [pre_nil, pre_nil]
  | c :: p, [], b, h => by simp at h
  | c :: p, d :: a, b, h => by
    show pre (c :: p) (d :: (a ++ b)) = pre (c :: p) (d :: a)
    rw [pre_cons, pre_cons, pre_append p a b (by simp at h; exact h)]

/-- In the front of a text a sign of two bytes hangs on its two bytes. -/
theorem Cy.two {r z x : Txt} {p : Nat} (h : Cy r z x p) (c d : UInt8) (hd : isB (bv d) = false) (e : UInt8) (hn : pre [c, d] (e :: r) = false) : pre [c, d] (e :: z) = false := by
  rcases h.cases with ⟨_, rfl⟩ | ⟨c', t, _, rfl, rfl⟩ | ⟨c', d', u, q, _, rfl, rfl⟩
  · cases z with
    | nil => rw [pre_cons, pre_none, Bool.and_false]
    | cons b y =>
      rw [pre_cons, pre_cons, pre_nil, Bool.and_true]
      have hb := h.ht b y rfl
      have : (d == b) = false := by
        rw [beq_eq_false_iff_ne]
        rintro rfl
        rw [hd] at hb; cases hb
      rw [this, Bool.and_false]
  · rw [pre_cons, pre_cons, pre_nil] at hn ⊢; exact hn
  · rw [pre_cons, pre_cons, pre_nil] at hn ⊢; exact hn
theorem gap_local0 {c : UInt8} {r z x : Txt} {p : Nat} (h : Cy r z x p) (hg : gapAt (c :: r) = .none) : gapAt (c :: z) = .none := by
  rw [gap_cons] at hg ⊢
  split at hg
  · cases hg
  · rename_i h1
    split at hg
    · cases hg
    · rename_i h2
      split at hg
      · rename_i h3
        unfold cGap at hg
        cases hc : cEnd (r.drop 1) with
        | none => rw [hc] at hg; cases hg
        | some m => rw [hc] at hg; cases hg
      · rename_i h3
        have h2 : pre [47, 47] (c :: r) = false := by simpa using h2
        have h3 : pre [47, 42] (c :: r) = false := by simpa using h3
        rw [if_neg h1, if_neg (by rw [h.two 47 47 (by decide) c h2]; simp), if_neg (by rw [h.two 47 42 (by decide) c h3]; simp)]

theorem hds_in {hd : Txt} (h : hd ∈ hds) : ∃ c1 c2 c3 c4, hd = [46, c1, c2, c3, c4] ∧ isL (bv c1) = true ∧ isL (bv c2) = true ∧ isL (bv c3) = true ∧ isL (bv c4) = true := by
  simp only [hds, List.mem_cons, List.not_mem_nil, or_false] at h
  rcases h with rfl | rfl | rfl | rfl <;> exact ⟨_, _, _, _, rfl, by decide, by decide, by decide, by decide⟩
theorem hd_pre {hd r : Txt} (h : hd ∈ hds) (hp : pre hd r = true) : ∃ c1 c2 c3 c4 t, r = 46 :: c1 :: c2 :: c3 :: c4 :: t ∧ hd = [46, c1, c2, c3, c4] ∧ isL (bv c1) = true ∧ inW (bv c1) = true ∧ inW (bv c2) = true ∧ inW (bv c3) = true ∧ inW (bv c4) = true := by
  obtain ⟨c1, c2, c3, c4, rfl, h1, h2, h3, h4⟩ := hds_in h
  have ht := pre_take hp
  match r, ht with
  | a :: b :: c :: d :: e :: t, ht =>
    simp only [List.length_cons, List.length_nil, List.take_succ_cons, List.take_zero, List.cons.injEq] at ht
    obtain ⟨rfl, rfl, rfl, rfl, rfl, _⟩ := ht
    exact ⟨_, _, _, _, t, rfl, rfl, h1, inW_L h1, inW_L h2, inW_L h3, inW_L h4⟩
theorem isHd_cases {r : Txt} (h : isHd r = true) : ∃ c1 c2 c3 c4 t, r = 46 :: c1 :: c2 :: c3 :: c4 :: t ∧ [46, c1, c2, c3, c4] ∈ hds ∧ isL (bv c1) = true ∧ inW (bv c1) = true ∧ inW (bv c2) = true ∧ inW (bv c3) = true ∧ inW (bv c4) = true ∧ noW t = true := by
  unfold isHd at h
  rw [Bool.and_eq_true] at h
  obtain ⟨hd, hm, hp⟩ := List.any_eq_true.1 h.1
  obtain ⟨c1, c2, c3, c4, t, rfl, rfl, g⟩ := hd_pre hm hp
  exact ⟨c1, c2, c3, c4, t, rfl, hm, g.1, g.2.1, g.2.2.1, g.2.2.2.1, g.2.2.2.2, h.2⟩
theorem isHd_of {c1 c2 c3 c4 : UInt8} {t : Txt} (hm : [46, c1, c2, c3, c4] ∈ hds) (hn : noW t = true) : isHd (46 :: c1 :: c2 :: c3 :: c4 :: t) = true := by
  unfold isHd
  rw [Bool.and_eq_true]
  refine ⟨List.any_eq_true.2 ⟨_, hm, ?_⟩, hn⟩
  simp [pre_cons, pre_nil]

/-- What is no head stays none. -/
theorem Cz.hd {r z x : Txt} {p : Nat} (h : Cz r z x p) (e : UInt8) (hn : isHd (e :: r) = false) : isHd (e :: z) = false := by
  cases hz : isHd (e :: z) with
  | false => rfl
  | true =>
    exfalso
    obtain ⟨c1, c2, c3, c4, t, he, hm, l1, w1, w2, w3, w4, hnt⟩ := isHd_cases hz
    injection he with he hzz
    subst he
    have htl : ∀ b y, x = b :: y → inW (bv b) = false := fun b y hx => blank_out (h.ht b y hx)
    have hez := h.ez
    rw [hzz] at hez
    match p, r, h, hez with
    | 0, r, h, hez =>
      have : x = c1 :: c2 :: c3 :: c4 :: t := by simpa using hez.symm
      rw [htl _ _ this] at w1; cases w1
    | 1, [], h, _ => have := h.hp; simp at this
    | 1, a :: r, h, hez =>
      injection hez with _ hez
      have : x = c2 :: c3 :: c4 :: t := by simpa using hez.symm
      rw [htl _ _ this] at w2; cases w2
    | 2, [], h, _ => have := h.hp; simp at this
    | 2, [a], h, _ => have := h.hp; simp at this
    | 2, a :: b :: r, h, hez =>
      injection hez with _ hez
      injection hez with _ hez
      have : x = c3 :: c4 :: t := by simpa using hez.symm
      rw [htl _ _ this] at w3; cases w3
    | 3, [], h, _ => have := h.hp; simp at this
    | 3, [a], h, _ => have := h.hp; simp at this
    | 3, [a, b], h, _ => have := h.hp; simp at this
    | 3, a :: b :: c :: r, h, hez =>
      injection hez with _ hez
      injection hez with _ hez
      injection hez with _ hez
      have : x = c4 :: t := by simpa using hez.symm
      rw [htl _ _ this] at w4; cases w4
    | q + 4, [], h, _ => have := h.hp; simp at this
    | q + 4, [a], h, _ => have := h.hp; simp at this
    | q + 4, [a, b], h, _ => have := h.hp; simp at this
    | q + 4, [a, b, c], h, _ => have := h.hp; simp at this
    | q + 4, a :: b :: c :: d :: r, h, hez =>
      injection hez with e1 hez
      injection hez with e2 hez
      injection hez with e3 hez
      injection hez with e4 hez
      subst e1 e2 e3 e4
      have hr : noW r = true := by
        cases hr : noW r with
        | true => rfl
        | false =>
          exfalso
          cases r with
          | nil => cases hr
          | cons f r =>
            have hf : inW (bv f) = true := by simpa [noW] using hr
            have hw := h.hw (by omega) _ _ rfl l1
            rw [nm_in w1, nm_in w2, nm_in w3, nm_in w4, nm_in hf] at hw
            obtain ⟨q', rfl⟩ : ∃ q', q = q' + 1 := ⟨q - 1, by omega⟩
            have : t = f :: (r.take q' ++ x) := by simpa using hez
            rw [this] at hnt
            simp [noW, hf] at hnt
      rw [isHd_of hm hr] at hn; cases hn

theorem sg_local {a r z x : Txt} {p : Nat} (h : Cz r z x p) (ha : 0 < a.length) (hs : sgLen (a ++ r) = a.length) : sgLen (a ++ z) = a.length := by
  unfold sgLen at hs
  cases h1 : isHd (a ++ r) with
  | true =>
    rw [h1, if_pos rfl] at hs
    obtain ⟨c1, c2, c3, c4, t, he, hm, _, _, _, _, _, hnt⟩ := isHd_cases h1
    match a, hs, he with
    | [b0, b1, b2, b3, b4], _, he =>
      simp only [List.cons_append, List.nil_append, List.cons.injEq] at he
      obtain ⟨rfl, rfl, rfl, rfl, rfl, rfl⟩ := he
      unfold sgLen
      rw [show ([46, b1, b2, b3, b4] ++ z : Txt) = 46 :: b1 :: b2 :: b3 :: b4 :: z from rfl, isHd_of hm (h.nW hnt), if_pos rfl]; rfl
  | false =>
    rw [h1, if_neg (by simp)] at hs
    cases h2 : twos.any (fun h => pre h (a ++ r)) with
    | true =>
      rw [h2, if_pos rfl] at hs
      match a, hs with
      | [b0, b1], _ =>
        obtain ⟨tw, hm, hp⟩ := List.any_eq_true.1 h2
        have hlen : tw.length = 2 := by
          simp only [twos, List.mem_cons, List.not_mem_nil, or_false] at hm
          rcases hm with rfl | rfl | rfl | rfl | rfl <;> rfl
        have e1 : ∀ l : Txt, pre tw ([b0, b1] ++ l) = pre tw [b0, b1] := fun l => pre_append tw [b0, b1] l (by rw [hlen]; exact Nat.le_refl _)
        have hpz : pre tw ([b0, b1] ++ z) = true := by rw [e1, ← e1 r]; exact hp
        have h3 : isHd ([b0, b1] ++ z) = false := by
          cases hz : isHd ([b0, b1] ++ z) with
          | false => rfl
          | true =>
            exfalso
            obtain ⟨c1, c2, c3, c4, t, he, _⟩ := isHd_cases hz
            injection he with he _
            subst he
            simp only [twos, List.mem_cons, List.not_mem_nil, or_false] at hm
            rcases hm with rfl | rfl | rfl | rfl | rfl <;> simp [pre_cons] at hp
        unfold sgLen
        have e2a : twos.any (fun h => pre h ([b0, b1] ++ z)) = true := List.any_eq_true.2 ⟨tw, hm, hpz⟩
        rw [h3, if_neg (by simp), e2a, if_pos rfl]; rfl
    | false =>
      rw [h2, if_neg (by simp)] at hs
      cases h3 : ones.any (fun c => pre [c] (a ++ r)) with
      | false => rw [h3, if_neg (by simp)] at hs; omega
      | true =>
        rw [h3, if_pos rfl] at hs
        match a, hs with
        | [c], _ =>
          have e3 : ones.any (fun o => pre [o] ([c] ++ z)) = true := by
            obtain ⟨o, ho, hp⟩ := List.any_eq_true.1 h3
            exact List.any_eq_true.2 ⟨o, ho, by show pre [o] (c :: z) = true; have hp : pre [o] (c :: r) = true := hp; rw [pre_cons, pre_nil] at hp ⊢; exact hp⟩
          have e2 : twos.any (fun h => pre h ([c] ++ z)) = false := by
            rw [List.any_eq_false] at h2 ⊢
            intro tw hm
            have hq := h2 tw hm
            have hq : pre tw (c :: r) = false := by simpa using hq
            have : pre tw (c :: z) = false := by
              simp only [twos, List.mem_cons, List.not_mem_nil, or_false] at hm
              rcases hm with rfl | rfl | rfl | rfl | rfl <;> exact h.two _ _ (by decide) c hq
            show ¬ pre tw (c :: z) = true
            rw [this]; simp
          unfold sgLen
          rw [show ([c] ++ z : Txt) = c :: z from rfl] at e3 e2 ⊢
          rw [h.hd c h1, if_neg (by simp), e2, if_neg (by simp), e3, if_pos rfl]; rfl

/-- A token hangs on nothing behind it. -/
theorem tok_local {a r z x : Txt} {p : Nat} {kd nm : Int} {tx : Txt} (h : Cz r z x p) (ht : tokAt (a ++ r) = .tok kd tx nm a.length) : tokAt (a ++ z) = .tok kd tx nm a.length := by
  have hpos := (tok_pos ht).1
  have takes : ∀ l : Txt, (a ++ l).take a.length = a := fun l => List.take_left
  have drops : ∀ l : Txt, (a ++ l).drop a.length = l := fun l => List.drop_left
  cases a with
  | nil => simp at hpos
  | cons c a' =>
    rw [List.cons_append, tok_cons, ← List.cons_append] at ht ⊢
    split at ht
    · rename_i hc
      rw [if_pos hc]
      unfold nmRes at ht ⊢
      split at ht
      · cases ht
      · rename_i h64
        injection ht with e1 e2 e3 e4
        have hz := nm_app (c :: a') r e4
        have hr0 : nmLen r = 0 := by have := hz r; omega
        have hzz : nmLen (c :: a' ++ z) = (c :: a').length := by rw [hz z, h.nm hr0]; omega
        rw [e4, takes] at e2
        rw [hzz, takes, if_neg (by omega), e1, e2, e3]
    · rename_i hc
      rw [if_neg hc]
      split at ht
      · rename_i hd
        rw [if_pos hd]
        unfold dgRes at ht ⊢
        split at ht
        · cases ht
        · rename_i hno
          split at ht
          · cases ht
          · rename_i hov
            injection ht with e1 e2 e3 e4
            rw [e4, drops] at hno
            rw [e4, takes] at e3 hov
            have hno : noW r = true := by simpa using hno
            have hzz : dgLen (c :: a' ++ z) = (c :: a').length := by
              by_cases h48 : c = 48
              · subst h48
                rw [List.cons_append, dg_cons, if_pos rfl] at e4 ⊢
                exact e4
              · rw [List.cons_append, dg_cons, if_neg h48] at e4 ⊢
                have := dcn_app (c :: a') r e4 z
                rw [List.cons_append, dcn_noW (h.nW hno)] at this
                exact this
            rw [hzz, drops, takes, if_neg (by rw [h.nW hno]; simp), if_neg hov, e1, e2, e3]
      · rename_i hd
        rw [if_neg hd]
        split at ht
        · rename_i h34
          rw [if_pos h34]
          unfold txRes at ht ⊢
          cases hx : txScan (a' ++ r) with
          | ok v n =>
            rw [hx] at ht
            injection ht with e1 e2 e3 e4
            have e4 : n + 1 = a'.length + 1 := e4
            have hn : n = a'.length := by omega
            subst hn
            rw [tx_app a' r v hx z]
            show Res.tok 3 v 0 (a'.length + 1) = _
            rw [e1, e2, e3]; rfl
          | bad o => rw [hx] at ht; cases ht
          | never => rw [hx] at ht; cases ht
        · rename_i h34
          rw [if_neg h34]
          unfold sgRes at ht ⊢
          split at ht
          · cases ht
          · rename_i h0
            injection ht with e1 e2 e3 e4
            have hz := sg_local h hpos e4
            rw [e4, takes] at e2
            rw [hz, takes, if_neg (by omega), e1, e2, e3]
end Go.Proofs.YtcdobniommnflaaGreatDoor
