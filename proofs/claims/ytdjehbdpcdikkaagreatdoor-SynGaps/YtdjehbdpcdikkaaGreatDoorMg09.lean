/- syn's reader: signs, names, words, depth. The library's contract on slices.Contains, laid at this program. syn's reader: words, calls, depth, choices. syn's reader: what stands behind a name; one of some signs. The plain reading never gives tokens back. -/
import Derived.Test.YtdjehbdpcdikkaaGreatDoorMg08
import Derived.Shelf.Slices.Turned
import Derived.Test.YtdjehbdpcdikkaaGreatDoorProg
import Derived.Test.YtdjehbdpcdikkaaGreatDoorMg03
namespace Go.Proofs.YtdjehbdpcdikkaaGreatDoor
open Go.RowKit

theorem bytes_eq {a b : Txt} : ((⟨a.toArray⟩ : ByteArray) = ⟨b.toArray⟩) ↔ a = b := ⟨fun h => by have := congrArg (fun x => x.data.toList) h; simpa using this, fun h => by rw [h]⟩
/-- The next token is there, and what it is. -/
theorem sgn_cons {e : Nat} {l : List Tok} {s : Txt} (h : sgn e l = s) (hs : s ≠ []) : ∃ t l', l = t :: l' ∧ t.kind = 4 ∧ t.text = s := by
  cases l with
  | nil =>
    simp [sgn, ahd] at h
    exact absurd h.symm (fun e => hs (by simpa using e))
  | cons t l' =>
    refine ⟨t, l', rfl, ?_⟩
    unfold sgn at h
    split at h
    · next hk => exact ⟨hk, h⟩
    · exact absurd h.symm hs
theorem ahd_kind {e : Nat} {l : List Tok} {k : Int} (h : (ahd e 0 l).kind = k) (hk : k ≠ 0) : ∃ t l', l = t :: l' ∧ t.kind = k := by
  cases l with
  | nil => exact absurd h (fun e => hk (by simpa [ahd] using e.symm))
  | cons t l' => exact ⟨t, l', rfl, h⟩

set_option maxRecDepth 100000 in
set_option maxHeartbeats 4000000 in
theorem skip_any {rb e : Nat} {w : World} {l : List Tok} {it dp : Nat} (h : Rd rb e w l it dp) (s : Txt) (hs : s ≠ []) :
    Calls Tryz.prog 160 #[.pointer (some ⟨rb, 0, none⟩), str s] w fun en w' => en = .returned (.bool (decide (sgn e l = s))) ∧ Rd rb e w' (if sgn e l = s then l.drop 1 else l) it dp ∧ Kp rb w w' := by
  have hg := sign_any h
  by_cases hS : sgn e l = s
  · obtain ⟨t, l', rfl, _⟩ := sgn_cons hS hs
    have HT : Hid (∀ v, Below w.heap.size w v → Calls Tryz.prog 150 #[.pointer (some ⟨rb, 0, none⟩)] v fun en w' => en = .returned (tokV t) ∧ Rd rb e w' l' it dp ∧ Kp rb v w') := fun v hv => take_any (h.later hv)
    rw [hS] at hg
    rw [if_pos hS, decide_eq_true hS]
    clear h hS
    go_enter Tryz.func160, Tryz.ntmps160
    go_wp2_with fail
    refine hg.mono ?_
    clear hg
    rintro en w2 ⟨rfl, b2⟩
    have ht := unhide HT w2 b2
    have B2 := hide b2
    clear b2 HT
    go_wp2_with fail
    refine ht.mono ?_
    clear ht
    rintro en w3 ⟨rfl, hR3, k3⟩
    have H3 := hide (And.intro hR3 ((Kp.of_below (unhide B2)).trans k3))
    clear hR3 k3
    go_wp2_with fail
    go_ret
    exact ⟨rfl, unhide H3⟩
  · rw [if_neg hS, decide_eq_false hS]
    have hne : (sgn e l == s) = false := by simpa using hS
    have HH := hide h
    generalize sgn e l = g at hg hne
    clear h hS
    go_enter Tryz.func160, Tryz.ntmps160
    go_wp2_with fail
    refine hg.mono ?_
    clear hg
    rintro en w2 ⟨rfl, b2⟩
    have B2 := hide b2
    clear b2
    go_wp2_with fail
    go_ret
    exact ⟨rfl, (unhide HH).later (unhide B2), Kp.of_below (unhide B2)⟩

set_option maxRecDepth 100000 in
set_option maxHeartbeats 4000000 in
theorem want_any {rb e : Nat} {w : World} {l : List Tok} {it dp : Nat} (h : Rd rb e w l it dp) (s : Txt) (hs : s ≠ []) :
    Calls Tryz.prog 162 #[.pointer (some ⟨rb, 0, none⟩), str s] w fun en w' => Ans rb e dp w (fun _ v _ => v = .tuple #[]) (want e s l it) en w' := by
  have hk := skip_any h s hs
  by_cases hS : sgn e l = s
  · have E : want e s l it = .ok () (l.drop 1) it := if_pos hS
    rw [E]
    rw [if_pos hS, decide_eq_true hS] at hk
    clear h hS E
    go_enter Tryz.func162, Tryz.ntmps162
    go_wp2_with fail
    refine hk.mono ?_
    clear hk
    rintro en w2 ⟨rfl, hR, k2⟩
    have H2 := hide (And.intro hR k2)
    clear hR k2
    go_wp2_with fail
    go_end0
    exact ⟨_, rfl, rfl, unhide H2⟩
  · have E : want e s l it = .bad 10 (ahd e 0 l).at_ l := if_neg hS
    rw [E]
    rw [if_neg hS, decide_eq_false hS] at hk
    clear h hS E
    go_enter Tryz.func162, Tryz.ntmps162
    go_wp2_with fail
    refine hk.mono ?_
    clear hk
    rintro en w2 ⟨rfl, hR, k2⟩
    have hr := refuse_any hR 10
    have H2 := hide k2
    clear hR k2
    go_wp2_with fail
    refine hr.mono ?_
    clear hr
    rintro en w3 ⟨rfl, b3⟩
    have H3 := hide ((unhide H2).trans (Kp.of_below b3))
    clear b3
    go_wp2_with fail
    exact ⟨rfl, rfl, unhide H3⟩

set_option maxRecDepth 100000 in
set_option maxHeartbeats 4000000 in
theorem name_any {rb e : Nat} {w : World} {l : List Tok} {it dp : Nat} (h : Rd rb e w l it dp) :
    Calls Tryz.prog 153 #[.pointer (some ⟨rb, 0, none⟩)] w fun en w' => Ans rb e dp w (fun _ v x => v = str x) (nmQ e l it) en w' := by
  have ha := ahead_any h 0
  unfold tokV at ha
  by_cases hS : (ahd e 0 l).kind = 1
  · have E : nmQ e l it = .ok (ahd e 0 l).text (l.drop 1) it := if_pos hS
    rw [E]
    obtain ⟨t, l', rfl, hk⟩ := ahd_kind hS (by decide)
    have HT : Hid (∀ v, Below w.heap.size w v → Calls Tryz.prog 150 #[.pointer (some ⟨rb, 0, none⟩)] v fun en w' => en = .returned (.agg #[.int .i64 t.kind, str t.text, .int .i64 t.num, .int .i64 (t.at_ : Int)]) ∧ Rd rb e w' l' it dp ∧ Kp rb v w') := fun v hv => take_any (h.later hv)
    have e0 : ahd e 0 (t :: l') = t := rfl
    rw [e0] at ha
    have hk2 : (t.kind != 1) = false := by simpa using hk
    rw [e0]
    clear h hS E hk e0
    go_enter Tryz.func153, Tryz.ntmps153
    go_wp2_with fail
    refine ha.mono ?_
    clear ha
    rintro en w2 ⟨rfl, b2⟩
    have ht := unhide HT w2 b2
    have B2 := hide b2
    clear b2 HT
    go_wp2_with fail
    rename_i hK
    refine hK _ _ ?_
    clear hK
    go_wp2_with fail
    refine ht.mono ?_
    clear ht
    rintro en w3 ⟨rfl, hR3, k3⟩
    have H3 := hide (And.intro hR3 ((Kp.of_below (unhide B2)).trans k3))
    clear hR3 k3
    go_wp2_with fail
    rename_i hK
    refine hK _ _ ?_
    clear hK
    go_wp2_with fail
    go_ret
    exact ⟨_, rfl, rfl, unhide H3⟩
  · have E : nmQ e l it = .bad 10 (ahd e 0 l).at_ l := if_neg hS
    rw [E]
    have HR : Hid (∀ v, Below w.heap.size w v → Calls Tryz.prog 132 #[.pointer (some ⟨rb, 0, none⟩), .int .i64 10] v fun en w' => en = .panicked [{ v := stopV 10 (ahd e 0 l).at_, recovered := false }] ∧ Below v.heap.size v w') := fun v hv => refuse_any (h.later hv) 10
    generalize ahd e 0 l = t at ha hS HR
    have hk2 : (t.kind != 1) = true := by simpa using hS
    clear h hS E
    go_enter Tryz.func153, Tryz.ntmps153
    go_wp2_with fail
    refine ha.mono ?_
    clear ha
    rintro en w2 ⟨rfl, b2⟩
    have hr := unhide HR w2 b2
    have B2 := hide b2
    clear b2 HR
    go_wp2_with fail
    rename_i hK
    refine hK _ _ ?_
    clear hK
    go_wp2_with fail
    refine hr.mono ?_
    clear hr
    rintro en w3 ⟨rfl, b3⟩
    have H3 := hide ((unhide B2).trans (b3.mono (unhide B2).size))
    clear b3
    go_wp2_with fail
    exact ⟨rfl, rfl, Kp.of_below (unhide H3)⟩
end Go.Proofs.YtdjehbdpcdikkaaGreatDoor

namespace Go.Proofs
open Go.Shelf
def Tryz.lays110_ren : Go.Shelf.Ren := ⟨fun | 110 => 182 | 109 => 200 | n => n, fun | 31 => 41 | 9 => 9 | 4 => 4 | 3 => 3 | 0 => 0 | n => n, fun | n => n⟩
theorem Tryz.lays110 : Go.Proofs.Lays.n110 Tryz.prog Tryz.lays110_ren := {
  mixed := by kernel_rfl
  f109 := Tryz.func200.trans (congrArg some (by kernel_rfl))
  f110 := Tryz.func182.trans (congrArg some (by kernel_rfl))
  t0 := Tryz.underlying0
  a0 := Tryz.isAgg0
  z0 := Tryz.sizeOf0
  v0 := Tryz.zeroValue0
  t3 := Tryz.underlying3
  a3 := Tryz.isAgg3
  z3 := Tryz.sizeOf3
  v3 := Tryz.zeroValue3
  t4 := Tryz.underlying4
  a4 := Tryz.isAgg4
  z4 := Tryz.sizeOf4
  v4 := Tryz.zeroValue4
  t9 := Tryz.underlying9
  a9 := Tryz.isAgg9
  z9 := Tryz.sizeOf9
  v9 := Tryz.zeroValue9
  t31 := Tryz.underlying41
  a31 := Tryz.isAgg41
  z31 := Tryz.sizeOf41
  v31 := Tryz.zeroValue41 }
open Go.Lib in
theorem Tryz.slices_Contains_string (b off n c : Nat) (zs : List ByteArray) (x : ByteArray) (w : World) (hz : n ≤ zs.length) (hbig : n ≤ 9223372036854775807) (hc : ∀ j, j < zs.length → w.cell? ⟨b, off + j, none⟩ = some (.string (zs.getD j ByteArray.empty))) :
    Calls Tryz.prog 182 #[.slice (some ⟨b, off, none⟩) n c, .string x] w fun e w' => e = .returned (.bool (Lib.containsS (zs.take n) x)) ∧ w' = w := Any.slices_Contains_string Tryz.lays110 b off n c zs x w hz hbig hc
end Go.Proofs

namespace Go.Proofs.YtdjehbdpcdikkaaGreatDoor
open Go.RowKit

theorem idx_has : ∀ (l : Txt) (c : UInt8), decide (0 ≤ Lib.indexByte l c) = l.contains c
  | [], c => by simp [Lib.indexByte]
  | b :: l, c => by
    have ih := idx_has l c
    unfold Lib.indexByte
    by_cases e : b = c
    · subst e; simp
    · have e1 : (b == c) = false := by simpa using e
      have e2 : (c == b) = false := by simpa using (fun h => e h.symm)
      rw [e1, List.contains_cons, e2, Bool.false_or, ← ih]
      simp only [Bool.false_eq_true, if_false]
      have hm := Lib.indexByte_ge l c
      by_cases h1 : Lib.indexByte l c = -1
      · rw [h1]; simp
      · have : (Lib.indexByte l c == -1) = false := by simpa using h1
        rw [this]
        simp only [Bool.false_eq_true, if_false]
        rw [Bool.eq_iff_iff]; simp; omega

set_option maxRecDepth 100000 in
set_option maxHeartbeats 4000000 in
theorem isWord_any (t : Tok) (w : World) :
    Calls Tryz.prog 181 #[.agg #[.int .i64 t.kind, str t.text, .int .i64 t.num, .int .i64 (t.at_ : Int)]] w fun en w' => en = .returned (.bool (isW1 t)) ∧ Below w.heap.size w w' := by
  have hc : ∀ v, Calls Tryz.prog 199 #[.string ⟨t.text.toArray⟩, .string ⟨#[46]⟩] v fun e w' => e = .returned (.bool (t.text.contains 46)) ∧ w' = v := fun v => by
    rw [← idx_has]
    exact Tryz.strings_Contains_one ⟨t.text.toArray⟩ 46 v
  have HC := hide hc
  have hA := hide (show isW1 t = (decide (t.kind = 1) && decide (t.text ≠ [95]) && !t.text.contains 46) from rfl)
  clear hc
  by_cases h1 : t.kind = 1
  · have k1 : (t.kind == 1) = true := by simpa using h1
    by_cases h2 : t.text = [95]
    · have k2 : (t.text == [95]) = true := by simpa using h2
      have HK := hide (And.intro h1 h2)
      clear h1 h2 HC
      go_enter Tryz.func181, Tryz.ntmps181
      go_wp2_with fail
      go_ret
      exact ⟨by rw [unhide hA, decide_eq_true (unhide HK).1, (unhide HK).2]; rfl, (Below.refl _ w).alloc (Nat.le_refl _) _⟩
    · have k2 : (t.text == [95]) = false := by simpa using h2
      have HK := hide (And.intro h1 h2)
      have hc := unhide HC (w.alloc (.cells #[.int .i64 t.kind, str t.text, .int .i64 t.num, .int .i64 (t.at_ : Int)] 43))
      clear h1 h2 HC
      generalize hq : t.text.contains 46 = q at hc
      have HQ := hide hq
      clear hq
      go_enter Tryz.func181, Tryz.ntmps181
      go_wp2_with fail
      refine hc.mono ?_
      clear hc
      rintro en w2 ⟨rfl, hw2⟩
      subst hw2
      go_wp2_with fail
      go_ret
      exact ⟨by rw [unhide hA, decide_eq_true (unhide HK).1, decide_eq_true (unhide HK).2, unhide HQ]; rfl, (Below.refl _ w).alloc (Nat.le_refl _) _⟩
  · have k1 : (t.kind == 1) = false := by simpa using h1
    have HK := hide h1
    clear h1 HC
    go_enter Tryz.func181, Tryz.ntmps181
    go_wp2_with fail
    go_ret
    exact ⟨by rw [unhide hA, decide_eq_false (unhide HK)]; rfl, (Below.refl _ w).alloc (Nat.le_refl _) _⟩

set_option maxRecDepth 100000 in
set_option maxHeartbeats 4000000 in
theorem wordq_any {rb e : Nat} {w : World} {l : List Tok} {it dp : Nat} (h : Rd rb e w l it dp) :
    Calls Tryz.prog 151 #[.pointer (some ⟨rb, 0, none⟩)] w fun en w' => Ans rb e dp w (fun _ v x => v = str x) (wordQ e l it) en w' := by
  have ha := ahead_any h 0
  unfold tokV at ha
  have HW := hide (fun v => isWord_any (ahd e 0 l) v)
  cases hS : isW1 (ahd e 0 l) with
  | true =>
    have E : wordQ e l it = .ok (ahd e 0 l).text (l.drop 1) it := if_pos hS
    rw [E]
    have hk1 : (ahd e 0 l).kind = 1 := by
      unfold isW1 at hS
      simp only [Bool.and_eq_true, decide_eq_true_eq] at hS
      exact hS.1.1
    obtain ⟨t, l', rfl, hk⟩ := ahd_kind hk1 (by decide)
    have HT : Hid (∀ v, Below w.heap.size w v → Calls Tryz.prog 150 #[.pointer (some ⟨rb, 0, none⟩)] v fun en w' => en = .returned (.agg #[.int .i64 t.kind, str t.text, .int .i64 t.num, .int .i64 (t.at_ : Int)]) ∧ Rd rb e w' l' it dp ∧ Kp rb v w') := fun v hv => take_any (h.later hv)
    have e0 : ahd e 0 (t :: l') = t := rfl
    rw [e0] at ha HW hS
    rw [e0]
    clear h E hk e0 hk1
    go_enter Tryz.func151, Tryz.ntmps151
    go_wp2_with fail
    refine ha.mono ?_
    clear ha
    rintro en w2 ⟨rfl, b2⟩
    have hw := unhide HW w2
    rw [hS] at hw
    have B2 := hide b2
    clear b2 HW
    go_wp2_with fail
    refine hw.mono ?_
    clear hw
    rintro en w3 ⟨rfl, b3⟩
    have b3' := (unhide B2).trans (b3.mono (unhide B2).size)
    have ht := unhide HT w3 b3'
    have B3 := hide b3'
    clear b3 b3' HT
    go_wp2_with fail
    refine ht.mono ?_
    clear ht
    rintro en w4 ⟨rfl, hR4, k4⟩
    have H4 := hide (And.intro hR4 ((Kp.of_below (unhide B3)).trans k4))
    clear hR4 k4
    go_wp2_with fail
    rename_i hK
    refine hK _ _ ?_
    clear hK
    go_wp2_with fail
    go_ret
    exact ⟨_, rfl, rfl, unhide H4⟩
  | false =>
    have E : wordQ e l it = .bad 10 (ahd e 0 l).at_ l := if_neg (by rw [hS]; simp)
    rw [E]
    have HR : Hid (∀ v, Below w.heap.size w v → Calls Tryz.prog 132 #[.pointer (some ⟨rb, 0, none⟩), .int .i64 10] v fun en w' => en = .panicked [{ v := stopV 10 (ahd e 0 l).at_, recovered := false }] ∧ Below v.heap.size v w') := fun v hv => refuse_any (h.later hv) 10
    generalize ahd e 0 l = t at ha hS HR HW
    clear h E
    go_enter Tryz.func151, Tryz.ntmps151
    go_wp2_with fail
    refine ha.mono ?_
    clear ha
    rintro en w2 ⟨rfl, b2⟩
    have hw := unhide HW w2
    rw [hS] at hw
    have B2 := hide b2
    clear b2 HW
    go_wp2_with fail
    refine hw.mono ?_
    clear hw
    rintro en w3 ⟨rfl, b3⟩
    have b3' := (unhide B2).trans (b3.mono (unhide B2).size)
    have hr := unhide HR w3 b3'
    have B3 := hide b3'
    clear b3 b3' HR
    go_wp2_with fail
    refine hr.mono ?_
    clear hr
    rintro en w4 ⟨rfl, b4⟩
    have H4 := hide ((unhide B3).trans (b4.mono (unhide B3).size))
    clear b4
    go_wp2_with fail
    exact ⟨rfl, rfl, Kp.of_below (unhide H4)⟩

set_option maxRecDepth 100000 in
set_option maxHeartbeats 4000000 in
theorem enter_any {rb e : Nat} {w : World} {l : List Tok} {it dp : Nat} (h : Rd rb e w l it dp) (hd : dp < 32) :
    Calls Tryz.prog 159 #[.pointer (some ⟨rb, 0, none⟩)] w fun en w' => en = .returned (.tuple #[]) ∧ Rd rb e w' l it (dp + 1) ∧ Kp rb w w' := by
  obtain ⟨v, hbx, hT⟩ := h.box
  have c3 : w.cell? ⟨rb, 3, none⟩ = some (.int .i64 (dp : Int)) := by rw [cell_hp hbx]; rfl
  have f3 : w.frozen? ⟨rb, 3, none⟩ = false := by simp [World.frozen?, hbx]
  have hz : ((dp : Int) == 32) = false := by simp; omega
  have HF : Hid (Rd rb e (w.setCell ⟨rb, 3, none⟩ (.int .i64 ((dp : Int) + 1))) l it (dp + 1)) := ⟨⟨v, by have := set_hp hbx 3 (.int .i64 ((dp : Int) + 1)); exact this.trans (by rw [Int.natCast_add]; rfl), hT.kp (Kp.set rb w 3 _)⟩, h.num, h.len, h.end_⟩
  clear h hbx hT
  go_enter Tryz.func159, Tryz.ntmps159
  go_wp2_with fail
  go_end0
  exact ⟨rfl, unhide HF, Kp.set rb w 3 _⟩
set_option maxRecDepth 100000 in
set_option maxHeartbeats 4000000 in
theorem enter_no {rb e : Nat} {w : World} {l : List Tok} {it : Nat} (h : Rd rb e w l it 32) :
    Calls Tryz.prog 159 #[.pointer (some ⟨rb, 0, none⟩)] w fun en w' => en = .panicked [{ v := stopV 4 (ahd e 0 l).at_, recovered := false }] ∧ Below w.heap.size w w' := by
  obtain ⟨v, hbx, hT⟩ := h.box
  have c3 : w.cell? ⟨rb, 3, none⟩ = some (.int .i64 32) := by rw [cell_hp hbx]; rfl
  have hr := refuse_any h 4
  clear h hbx hT
  go_enter Tryz.func159, Tryz.ntmps159
  go_wp2_with fail
  refine hr.mono ?_
  clear hr
  rintro en w4 ⟨rfl, b4⟩
  have H4 := hide b4
  clear b4
  go_wp2_with fail
  exact ⟨rfl, rfl, unhide H4⟩
set_option maxRecDepth 100000 in
set_option maxHeartbeats 4000000 in
theorem leave_any {rb e : Nat} {w : World} {l : List Tok} {it dp : Nat} (h : Rd rb e w l it (dp + 1)) (hd : dp < 32) :
    Calls Tryz.prog 163 #[.pointer (some ⟨rb, 0, none⟩)] w fun en w' => en = .returned (.tuple #[]) ∧ Rd rb e w' l it dp ∧ Kp rb w w' := by
  obtain ⟨v, hbx, hT⟩ := h.box
  have c3 : w.cell? ⟨rb, 3, none⟩ = some (.int .i64 ((dp : Int) + 1)) := by rw [cell_hp hbx, Int.natCast_add]; rfl
  have f3 : w.frozen? ⟨rb, 3, none⟩ = false := by simp [World.frozen?, hbx]
  have HF : Hid (Rd rb e (w.setCell ⟨rb, 3, none⟩ (.int .i64 (dp : Int))) l it dp) := ⟨⟨v, set_hp hbx 3 (.int .i64 (dp : Int)), hT.kp (Kp.set rb w 3 _)⟩, h.num, h.len, h.end_⟩
  clear h hbx hT
  go_enter Tryz.func163, Tryz.ntmps163
  go_wp2_with fail
  go_end0
  exact ⟨rfl, by simpa using unhide HF, Kp.set rb w 3 _⟩
end Go.Proofs.YtdjehbdpcdikkaaGreatDoor

namespace Go.Proofs.YtdjehbdpcdikkaaGreatDoor
open Go.RowKit

/-- Signs in memory. -/
def SgAt (rb : Nat) (w : World) (v : Value) (ss : List Txt) : Prop := ∃ b off c, v = .slice (some ⟨b, off, none⟩) ss.length c ∧ b ≠ rb ∧ b < w.heap.size ∧ ∀ j x, ss[j]? = some x → w.cell? ⟨b, off + j, none⟩ = some (str x)
theorem SgAt.kp {rb : Nat} {w w' : World} {v : Value} {ss : List Txt} (h : SgAt rb w v ss) (k : Kp rb w w') : SgAt rb w' v ss := by
  obtain ⟨b, off, c, h1, h2, h3, h4⟩ := h
  refine ⟨b, off, c, h1, h2, by have := k.size; omega, fun j x hx => ?_⟩
  have := h4 j x hx
  simp only [World.cell?] at this ⊢
  rw [k.block b h3 h2]; exact this
theorem contains_any {rb : Nat} {w : World} {v : Value} {ss : List Txt} (h : SgAt rb w v ss) (hl : ss.length ≤ 100) (g : Txt) :
    Calls Tryz.prog 182 #[v, str g] w fun en w' => en = .returned (.bool (decide (g ∈ ss))) ∧ w' = w := by
  obtain ⟨b, off, c, rfl, h2, h3, h4⟩ := h
  have := Tryz.slices_Contains_string b off ss.length c (ss.map fun x => (⟨x.toArray⟩ : ByteArray)) ⟨g.toArray⟩ w (by simp) (by omega) (fun j hj => by
    have hj' : j < ss.length := by simpa using hj
    rw [List.getD_eq_getElem?_getD, List.getElem?_map, List.getElem?_eq_getElem hj']
    exact h4 j _ (List.getElem?_eq_getElem hj'))
  refine this.mono ?_
  rintro en w' ⟨rfl, rfl⟩
  refine ⟨?_, rfl⟩
  congr 2
  rw [Bool.eq_iff_iff, Lib.containsS_iff, decide_eq_true_eq, List.take_of_length_le (by simp), List.mem_map]
  constructor
  · rintro ⟨x, hx, e⟩; rw [bytes_eq.1 e] at hx; exact hx
  · exact fun hx => ⟨g, hx, rfl⟩

set_option maxRecDepth 100000 in
set_option maxHeartbeats 4000000 in
theorem choose_any {rb e : Nat} {w : World} {l : List Tok} {it dp : Nat} (h : Rd rb e w l it dp) (v : Value) (ss : List Txt) (hs : SgAt rb w v ss) (hl : ss.length ≤ 100) (hne : [] ∉ ss) :
    Calls Tryz.prog 152 #[.pointer (some ⟨rb, 0, none⟩), v] w fun en w' => Ans rb e dp w (fun _ v x => v = str x) (choose e ss l it) en w' := by
  have hg := sign_any h
  have HC : Hid (∀ u, Below w.heap.size w u → Calls Tryz.prog 182 #[v, str (sgn e l)] u fun en w' => en = .returned (.bool (decide (sgn e l ∈ ss))) ∧ w' = u) := fun u hu => contains_any (hs.kp (Kp.of_below hu)) hl _
  obtain ⟨b, off, c, ev, _⟩ := id hs
  subst ev
  by_cases hS : sgn e l ∈ ss
  · have E : choose e ss l it = .ok (ahd e 0 l).text (l.drop 1) it := if_pos hS
    rw [E]
    obtain ⟨t, l', rfl, hq⟩ := sgn_cons (s := sgn e l) rfl (fun e => hne (e ▸ hS))
    clear hq
    have HT : Hid (∀ v, Below w.heap.size w v → Calls Tryz.prog 150 #[.pointer (some ⟨rb, 0, none⟩)] v fun en w' => en = .returned (.agg #[.int .i64 t.kind, str t.text, .int .i64 t.num, .int .i64 (t.at_ : Int)]) ∧ Rd rb e w' l' it dp ∧ Kp rb v w') := fun v hv => take_any (h.later hv)
    have e0 : ahd e 0 (t :: l') = t := rfl
    rw [e0]
    rw [decide_eq_true hS] at HC
    generalize sgn e (t :: l') = g at hg HC
    clear h E e0 hS hs
    go_enter Tryz.func152, Tryz.ntmps152
    go_wp2_with fail
    refine hg.mono ?_
    clear hg
    rintro en w2 ⟨rfl, b2⟩
    have hc := unhide HC w2 b2
    have ht := unhide HT w2 b2
    have B2 := hide b2
    clear b2 HC HT
    go_wp2_with fail
    refine hc.mono ?_
    clear hc
    rintro en w3 ⟨rfl, hw3⟩
    subst hw3
    go_wp2_with fail
    refine ht.mono ?_
    clear ht
    rintro en w4 ⟨rfl, hR4, k4⟩
    have H4 := hide (And.intro hR4 ((Kp.of_below (unhide B2)).trans k4))
    clear hR4 k4
    go_wp2_with fail
    rename_i hK
    refine hK _ _ ?_
    clear hK
    go_wp2_with fail
    go_ret
    exact ⟨_, rfl, rfl, unhide H4⟩
  · have E : choose e ss l it = .bad 10 (ahd e 0 l).at_ l := if_neg hS
    rw [E]
    have HR : Hid (∀ v, Below w.heap.size w v → Calls Tryz.prog 132 #[.pointer (some ⟨rb, 0, none⟩), .int .i64 10] v fun en w' => en = .panicked [{ v := stopV 10 (ahd e 0 l).at_, recovered := false }] ∧ Below v.heap.size v w') := fun v hv => refuse_any (h.later hv) 10
    rw [decide_eq_false hS] at HC
    generalize (ahd e 0 l).at_ = at0 at HR
    generalize sgn e l = g at hg HC
    clear h E hS hs
    go_enter Tryz.func152, Tryz.ntmps152
    go_wp2_with fail
    refine hg.mono ?_
    clear hg
    rintro en w2 ⟨rfl, b2⟩
    have hc := unhide HC w2 b2
    have hr := unhide HR w2 b2
    have B2 := hide b2
    clear b2 HC HR
    go_wp2_with fail
    refine hc.mono ?_
    clear hc
    rintro en w3 ⟨rfl, hw3⟩
    subst hw3
    go_wp2_with fail
    refine hr.mono ?_
    clear hr
    rintro en w4 ⟨rfl, b4⟩
    have H4 := hide ((unhide B2).trans (b4.mono (unhide B2).size))
    clear b4
    go_wp2_with fail
    exact ⟨rfl, rfl, Kp.of_below (unhide H4)⟩

set_option maxRecDepth 100000 in
set_option maxHeartbeats 4000000 in
theorem callNext_any {rb e : Nat} {w : World} {l : List Tok} {it dp : Nat} (h : Rd rb e w l it dp) :
    Calls Tryz.prog 158 #[.pointer (some ⟨rb, 0, none⟩)] w fun en w' => en = .returned (.bool (callN e l)) ∧ Below w.heap.size w w' := by
  have h1 := ahead_any h 1
  unfold tokV at h1
  have H0 : Hid (∀ v, Below w.heap.size w v → Calls Tryz.prog 107 #[.pointer (some ⟨rb, 0, none⟩), .int .i64 0] v fun en w' => en = .returned (.agg #[.int .i64 (ahd e 0 l).kind, str (ahd e 0 l).text, .int .i64 (ahd e 0 l).num, .int .i64 ((ahd e 0 l).at_ : Int)]) ∧ Below v.heap.size v w') := fun v hv => ahead_any (h.later hv) 0
  have hA := hide (show callN e l = (decide ((ahd e 0 l).kind = 1) && decide ((ahd e 1 l).kind = 4) && decide ((ahd e 1 l).text = [40])) from rfl)
  clear h
  generalize ahd e 0 l = s at H0 hA
  generalize ahd e 1 l = t at h1 hA
  have k1 : (s.kind == 1) = decide (s.kind = 1) := rfl
  have k2 : (t.kind == 4) = decide (t.kind = 4) := rfl
  go_enter Tryz.func158, Tryz.ntmps158
  go_wp2_with fail
  refine h1.mono ?_
  clear h1
  rintro en w2 ⟨rfl, b2⟩
  obtain ⟨w3, hw3⟩ : ∃ w3, w3 = w2.alloc (.cells #[.int .i64 t.kind, str t.text, .int .i64 t.num, .int .i64 (t.at_ : Int)] 43) := ⟨_, rfl⟩
  have b3 : Below w.heap.size w w3 := by rw [hw3]; exact b2.alloc b2.size _
  have n3 : w3.heap[w2.heap.size]? = some (.cells #[.int .i64 t.kind, str t.text, .int .i64 t.num, .int .i64 (t.at_ : Int)] 43 (0, 0)) := by rw [hw3]; exact heap_alloc_new w2 _
  have h0 := unhide H0 w3 b3
  have N3 := hide (And.intro b3 n3)
  have HW3 := hide hw3
  clear b2 b3 n3 H0 hw3
  go_wp2_with fail
  rw [← unhide HW3]
  refine h0.mono ?_
  clear h0
  rintro en w4 ⟨rfl, b4⟩
  have n4 : w4.heap[w2.heap.size]? = some (.cells #[.int .i64 t.kind, str t.text, .int .i64 t.num, .int .i64 (t.at_ : Int)] 43 (0, 0)) := (b4.block _ (lt_hp (unhide N3).2)).trans (unhide N3).2
  have c0 := (cell_hp n4 0).trans (show _ = some (.int .i64 t.kind) from rfl)
  have c1 := (cell_hp n4 1).trans (show _ = some (str t.text) from rfl)
  have B4 := hide ((unhide N3).1.trans (b4.mono (unhide N3).1.size))
  clear b4 n4
  go_wp2_with fail
  rename_i hK
  refine hK _ _ ?_
  clear hK
  by_cases e1 : s.kind = 1
  · have q1 : (s.kind == 1) = true := by simpa using e1
    by_cases e2 : t.kind = 4
    · have q2 : (t.kind == 4) = true := by simpa using e2
      have HK := hide (And.intro e1 e2)
      clear e1 e2 k1 k2
      go_wp2_with fail
      go_ret
      refine ⟨?_, unhide B4⟩
      rw [unhide hA, decide_eq_true (unhide HK).1, decide_eq_true (unhide HK).2, Bool.true_and, Bool.true_and]
      show Ending.returned (.bool (t.text == [40])) = _
      congr 2
      rw [Bool.eq_iff_iff]; simp
    · have q2 : (t.kind == 4) = false := by simpa using e2
      have HK := hide (And.intro e1 e2)
      clear e1 e2 k1 k2
      go_wp2_with fail
      go_ret
      exact ⟨by rw [unhide hA, decide_eq_true (unhide HK).1, decide_eq_false (unhide HK).2]; rfl, unhide B4⟩
  · have q1 : (s.kind == 1) = false := by simpa using e1
    have HK := hide e1
    clear e1 k1 k2
    go_wp2_with fail
    go_ret
    exact ⟨by rw [unhide hA, decide_eq_false (unhide HK)]; rfl, unhide B4⟩
end Go.Proofs.YtdjehbdpcdikkaaGreatDoor

namespace Go.Proofs.YtdjehbdpcdikkaaGreatDoor

/-- What is left is no longer than what was there. -/
def Shr {α : Type} (p : Pr α) : Prop := ∀ l i x l' i', p l i = .ok x l' i' → l'.length ≤ l.length
theorem bind_ok {α β : Type} {r : Rs α} {f : α → Pr β} {x : β} {l : List Tok} {i : Nat} (h : r.bind f = .ok x l i) : ∃ a l1 i1, r = .ok a l1 i1 ∧ f a l1 i1 = .ok x l i := by
  cases r with
  | bad w a l => cases h
  | ok a l1 i1 => exact ⟨a, l1, i1, rfl, h⟩
theorem map_ok {α β : Type} {r : Rs α} {f : α → β} {x : β} {l : List Tok} {i : Nat} (h : r.map f = .ok x l i) : ∃ a, r = .ok a l i ∧ f a = x := by
  cases r with
  | bad w a l => cases h
  | ok a l1 i1 =>
    simp only [Rs.map, Rs.ok.injEq] at h
    obtain ⟨h1, rfl, rfl⟩ := h
    exact ⟨a, rfl, h1⟩
theorem drop_le (l : List Tok) : (l.drop 1).length ≤ l.length := by simp
section
variable {e : Nat}
theorem shr_want (s : Txt) : Shr (want e s) := fun l i x l' i' h => by
  unfold want at h
  split at h
  · cases h; exact drop_le l
  · cases h
theorem shr_choose (ss : List Txt) : Shr (choose e ss) := fun l i x l' i' h => by
  unfold choose at h
  split at h
  · cases h; exact drop_le l
  · cases h
theorem shr_nm : Shr (nmQ e) := fun l i x l' i' h => by
  unfold nmQ at h
  split at h
  · cases h; exact drop_le l
  · cases h
theorem shr_word : Shr (wordQ e) := fun l i x l' i' h => by
  unfold wordQ at h
  split at h
  · cases h; exact drop_le l
  · cases h
theorem shr_refuse {α : Type} (why : Int) : Shr (refuse (α := α) e why) := fun l i x l' i' h => by cases h
theorem shr_listL {α : Type} {sep : Txt} {most : Nat} {p : Pr α} (hp : Shr p) : ∀ f acc, Shr (listL e sep most p f acc)
  | 0, acc, l, i, x, l', i', h => by cases h; exact Nat.le_refl _
  | f + 1, acc, l, i, x, l', i', h => by
    unfold listL at h
    split at h
    · cases h
    · obtain ⟨a, l1, i1, h1, h2⟩ := bind_ok h
      have g1 := hp _ _ _ _ _ h1
      split at h2
      · have := shr_listL hp f _ _ _ _ _ _ h2
        have := drop_le l1
        omega
      · cases h2; exact g1
theorem shr_list {α : Type} {sep : Txt} {most : Nat} {p : Pr α} (hp : Shr p) : Shr (listP e sep most p) := fun _ _ _ _ _ h => shr_listL hp _ _ _ _ _ _ _ h
theorem shr_encl {α : Type} {op cl : Txt} {p : Pr α} (hp : Shr p) : Shr (encl e op cl p) := fun l i x l' i' h => by
  unfold encl at h
  obtain ⟨a, l1, i1, h1, h2⟩ := bind_ok h
  have g1 := shr_want _ _ _ _ _ _ h1
  split at h2
  · cases h2
    have := drop_le l1
    omega
  · obtain ⟨b, l2, i2, h3, h4⟩ := bind_ok h2
    have g2 := shr_list hp _ _ _ _ _ h3
    obtain ⟨c, h5, _⟩ := map_ok h4
    have g3 := shr_want _ _ _ _ _ _ h5
    omega
theorem shr_joinL {p : Pr Ex} {ss : List Txt} (hp : Shr p) : ∀ f x, Shr (joinL e p ss f x)
  | 0, x, l, i, y, l', i', h => by cases h; exact Nat.le_refl _
  | f + 1, x, l, i, y, l', i', h => by
    unfold joinL at h
    split at h
    · obtain ⟨a, l1, i1, h1, h2⟩ := bind_ok h
      have g1 := hp _ _ _ _ _ h1
      have g2 := shr_joinL hp f _ _ _ _ _ _ h2
      have := drop_le l
      omega
    · cases h; exact Nat.le_refl _
theorem shr_joined {p : Pr Ex} {ss : List Txt} (hp : Shr p) : Shr (joined e p ss) := fun l i x l' i' h => by
  unfold joined at h
  obtain ⟨a, l1, i1, h1, h2⟩ := bind_ok h
  have g1 := hp _ _ _ _ _ h1
  have g2 := shr_joinL hp _ _ _ _ _ _ _ h2
  omega
theorem shr_signed {E F : Pr Ex} (hE : Shr E) (hF : Shr F) : Shr (signed e E F) := fun l i x l' i' h => by
  unfold signed at h
  obtain ⟨a, l1, i1, h1, h2⟩ := bind_ok h
  have g1 := shr_choose _ _ _ _ _ _ h1
  split at h2
  · obtain ⟨b, h3, _⟩ := map_ok h2
    have := hF _ _ _ _ _ h3
    omega
  · split at h2
    · obtain ⟨b, l2, i2, h3, h4⟩ := bind_ok h2
      obtain ⟨c, h5, _⟩ := map_ok h4
      have g2 := hE _ _ _ _ _ h3
      have g3 := shr_want _ _ _ _ _ _ h5
      omega
    · obtain ⟨b, l2, i2, h3, h4⟩ := bind_ok h2
      obtain ⟨c, h5, _⟩ := map_ok h4
      have g2 := shr_word _ _ _ _ _ h3
      have g3 := shr_encl hE _ _ _ _ _ h5
      omega
theorem shr_factor {E F : Pr Ex} (hE : Shr E) (hF : Shr F) : Shr (factorB e E F) := fun l i x l' i' h => by
  unfold factorB at h
  split at h
  · cases h; exact drop_le l
  · split at h
    · cases h; exact drop_le l
    · split at h
      · split at h
        · cases h; exact drop_le l
        · obtain ⟨b, h3, _⟩ := map_ok h
          exact shr_word _ _ _ _ _ h3
      · exact shr_signed hE hF _ _ _ _ _ h
theorem shr_ex : ∀ d, Shr (exD e d).1 ∧ Shr (exD e d).2
  | 0 => ⟨shr_refuse 4, shr_refuse 4⟩
  | d + 1 => ⟨shr_joined (shr_joined (shr_ex d).2), shr_factor (shr_ex d).1 (shr_ex d).2⟩
theorem shr_atom (d : Nat) : Shr (atomP e d) := fun l i x l' i' h => by
  unfold atomP at h
  obtain ⟨a, l1, i1, h1, h2⟩ := bind_ok h
  obtain ⟨b, h3, _⟩ := map_ok h2
  have g1 := shr_nm _ _ _ _ _ h1
  have g2 := shr_encl (shr_ex d).1 _ _ _ _ _ h3
  omega
theorem shr_lit (d : Nat) : Shr (litP e d) := fun l i x l' i' h => by
  unfold litP at h
  split at h
  · obtain ⟨b, h3, _⟩ := map_ok h
    have := shr_atom d _ _ _ _ _ h3
    have := drop_le l
    omega
  · split at h
    · obtain ⟨b, h3, _⟩ := map_ok h
      exact shr_atom d _ _ _ _ _ h3
    · obtain ⟨a, l1, i1, h1, h2⟩ := bind_ok h
      obtain ⟨b, l2, i2, h3, h4⟩ := bind_ok h2
      obtain ⟨c, h5, _⟩ := map_ok h4
      have g1 := (shr_ex d).1 _ _ _ _ _ h1
      have g2 := shr_choose _ _ _ _ _ _ h3
      have g3 := (shr_ex d).1 _ _ _ _ _ h5
      omega
theorem shr_field : Shr (fieldP e) := fun l i x l' i' h => by
  unfold fieldP at h
  obtain ⟨a, l1, i1, h1, h2⟩ := bind_ok h
  obtain ⟨b, l2, i2, h3, h4⟩ := bind_ok h2
  obtain ⟨c, h5, _⟩ := map_ok h4
  have g1 := shr_word _ _ _ _ _ h1
  have g2 := shr_want _ _ _ _ _ _ h3
  have g3 := shr_nm _ _ _ _ _ h5
  omega
theorem shr_ctor : Shr (ctorP e) := fun l i x l' i' h => by
  unfold ctorP at h
  obtain ⟨a, l1, i1, h1, h2⟩ := bind_ok h
  obtain ⟨b, h3, _⟩ := map_ok h2
  have g1 := shr_word _ _ _ _ _ h1
  have g2 := shr_encl shr_field _ _ _ _ _ h3
  omega
end
end Go.Proofs.YtdjehbdpcdikkaaGreatDoor
