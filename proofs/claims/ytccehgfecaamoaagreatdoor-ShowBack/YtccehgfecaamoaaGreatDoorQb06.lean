/- syn's reader: signs, names, words, depth. The library's contract on slices.Contains, laid at this program. syn's reader: words, calls, depth, choices. syn's reader: what stands behind a name; one of some signs. The plain reading never gives tokens back. syn: a field. -/
import Derived.Test.YtccehgfecaamoaaGreatDoorQb05
import Derived.Shelf.Slices.Turned
import Derived.Test.YtccehgfecaamoaaGreatDoorProg
import Derived.Test.YtccehgfecaamoaaGreatDoorQb02
set_option maxRecDepth 100000
set_option maxHeartbeats 32000000
namespace Go.Proofs.YtccehgfecaamoaaGreatDoor
section
open Go.RowKit
theorem Qzw {a b : Txt} : ((⟨a.toArray⟩ : ByteArray) = ⟨b.toArray⟩) ↔ a = b := ⟨fun h => by have := congrArg (fun x => x.data.toList) h; simpa using this, fun h => by rw [h]⟩
theorem Qci {e : Nat} {l : List Tok} {s : Txt} (h : sgn e l = s) (hs : s ≠ []) : ∃ t l', l = t :: l' ∧ t.kind = 4 ∧ t.text = s := by
 cases l with
 | nil =>
  simp [sgn, ahd] at h
  exact absurd h.symm (fun e => hs (by simpa using e))
 | cons t l' =>
  refine ⟨t, l', rfl, ?_⟩
  unfold sgn at h
  split at h
  · next hk => exact ⟨hk, h⟩
  · exact absurd h.symm hs
theorem Qem {e : Nat} {l : List Tok} {k : Int} (h : (ahd e 0 l).kind = k) (hk : k ≠ 0) : ∃ t l', l = t :: l' ∧ t.kind = k := by
 cases l with
 | nil => exact absurd h (fun e => hk (by simpa [ahd] using e.symm))
 | cons t l' => exact ⟨t, l', rfl, h⟩

theorem Qcb {rb e : Nat} {w : World} {l : List Tok} {it dp : Nat} (h : Rd rb e w l it dp) (s : Txt) (hs : s ≠ []) :
  Calls Tryz.prog 120 #[.pointer (some ⟨rb, 0, none⟩), str s] w fun en w' => en = .returned (.bool (decide (sgn e l = s))) ∧ Rd rb e w' (if sgn e l = s then l.drop 1 else l) it dp ∧ Kp rb w w' := by
 have hg := Qdv h
 by_cases hS : sgn e l = s
 ·
  obtain ⟨t, l', rfl, _⟩ := Qci hS hs
  have HT : Hid (∀ v, Below w.heap.size w v → Calls Tryz.prog 110 #[.pointer (some ⟨rb, 0, none⟩)] v fun en w' => en = .returned (tokV t) ∧ Rd rb e w' l' it dp ∧ Kp rb v w') := fun v hv => Qbu (h.later hv)
  rw [hS] at hg
  rw [if_pos hS, decide_eq_true hS]
  clear h hS
  go_enter Tryz.func120, Tryz.ntmps120
  go_wp2_with fail
  refine hg.mono ?_
  clear hg
  rintro en w2 ⟨rfl, b2⟩
  have ht := Qa HT w2 b2
  have B2 := hide b2
  clear b2 HT
  go_wp2_with fail
  refine ht.mono ?_
  clear ht
  rintro en w3 ⟨rfl, hR3, k3⟩
  have H3 := hide (Ya hR3 ((Kp.of_below (Qa B2)).trans k3))
  clear hR3 k3
  go_wp2_with fail
  go_ret
  exact ⟨rfl, Qa H3⟩
 rw [if_neg hS, decide_eq_false hS]
 have hne : (sgn e l == s) = false := by simpa using hS
 have HH := hide h
 generalize sgn e l = g at hg hne
 clear h hS
 go_enter Tryz.func120, Tryz.ntmps120
 go_wp2_with fail
 refine hg.mono ?_
 clear hg
 rintro en w2 ⟨rfl, b2⟩
 have B2 := hide b2
 clear b2
 go_wp2_with fail
 go_ret
 exact ⟨rfl, (Qa HH).later (Qa B2), Kp.of_below (Qa B2)⟩

theorem Qch {rb e : Nat} {w : World} {l : List Tok} {it dp : Nat} (h : Rd rb e w l it dp) (s : Txt) (hs : s ≠ []) :
  Calls Tryz.prog 122 #[.pointer (some ⟨rb, 0, none⟩), str s] w fun en w' => Ans rb e dp w (fun _ v _ => v = .tuple #[]) (want e s l it) en w' := by
 have hk := Qcb h s hs
 by_cases hS : sgn e l = s
 ·
  have E : want e s l it = .ok () (l.drop 1) it := if_pos hS
  rw [E]
  rw [if_pos hS, decide_eq_true hS] at hk
  clear h hS E
  go_enter Tryz.func122, Tryz.ntmps122
  go_wp2_with fail
  refine hk.mono ?_
  clear hk
  rintro en w2 ⟨rfl, hR, k2⟩
  have H2 := hide (Ya hR k2)
  clear hR k2
  go_wp2_with fail
  go_end0
  exact ⟨_, rfl, rfl, Qa H2⟩
 have E : want e s l it = .bad 10 (ahd e 0 l).at_ l := if_neg hS
 rw [E]
 rw [if_neg hS, decide_eq_false hS] at hk
 clear h hS E
 go_enter Tryz.func122, Tryz.ntmps122
 go_wp2_with fail
 refine hk.mono ?_
 clear hk
 rintro en w2 ⟨rfl, hR, k2⟩
 have hr := Qbr hR 10
 have H2 := hide k2
 clear hR k2
 go_wp2_with fail
 refine hr.mono ?_
 clear hr
 rintro en w3 ⟨rfl, b3⟩
 have H3 := hide ((Qa H2).trans (Kp.of_below b3))
 clear b3
 go_wp2_with fail
 exact ⟨rfl, rfl, Qa H3⟩

theorem Qgf {rb e : Nat} {w : World} {l : List Tok} {it dp : Nat} (h : Rd rb e w l it dp) :
  Calls Tryz.prog 113 #[.pointer (some ⟨rb, 0, none⟩)] w fun en w' => Ans rb e dp w (fun _ v x => v = str x) (nmQ e l it) en w' := by
 have ha := Qau h 0
 unfold tokV at ha
 by_cases hS : (ahd e 0 l).kind = 1
 ·
  have E : nmQ e l it = .ok (ahd e 0 l).text (l.drop 1) it := if_pos hS
  rw [E]
  obtain ⟨t, l', rfl, hk⟩ := Qem hS (by decide)
  have HT : Hid (∀ v, Below w.heap.size w v → Calls Tryz.prog 110 #[.pointer (some ⟨rb, 0, none⟩)] v fun en w' => en = .returned (.agg #[.int .i64 t.kind, str t.text, .int .i64 t.num, .int .i64 (t.at_ : Int)]) ∧ Rd rb e w' l' it dp ∧ Kp rb v w') := fun v hv => Qbu (h.later hv)
  have e0 : ahd e 0 (t :: l') = t := rfl
  rw [e0] at ha
  have hk2 : (t.kind != 1) = false := by simpa using hk
  rw [e0]
  clear h hS E hk e0
  go_enter Tryz.func113, Tryz.ntmps113
  go_wp2_with fail
  refine ha.mono ?_
  clear ha
  rintro en w2 ⟨rfl, b2⟩
  have ht := Qa HT w2 b2
  have B2 := hide b2
  clear b2 HT
  go_wp2_with fail
  rename_i hK
  refine hK _ _ ?_
  clear hK
  go_wp2_with fail
  refine ht.mono ?_
  clear ht
  rintro en w3 ⟨rfl, hR3, k3⟩
  have H3 := hide (Ya hR3 ((Kp.of_below (Qa B2)).trans k3))
  clear hR3 k3
  go_wp2_with fail
  rename_i hK
  refine hK _ _ ?_
  clear hK
  go_wp2_with fail
  go_ret
  exact ⟨_, rfl, rfl, Qa H3⟩
 have E : nmQ e l it = .bad 10 (ahd e 0 l).at_ l := if_neg hS
 rw [E]
 have HR : Hid (∀ v, Below w.heap.size w v → Calls Tryz.prog 91 #[.pointer (some ⟨rb, 0, none⟩), .int .i64 10] v fun en w' => en = .panicked [{ v := stopV 10 (ahd e 0 l).at_, recovered := false }] ∧ Below v.heap.size v w') := fun v hv => Qbr (h.later hv) 10
 generalize ahd e 0 l = t at ha hS HR
 have hk2 : (t.kind != 1) = true := by simpa using hS
 clear h hS E
 go_enter Tryz.func113, Tryz.ntmps113
 go_wp2_with fail
 refine ha.mono ?_
 clear ha
 rintro en w2 ⟨rfl, b2⟩
 have hr := Qa HR w2 b2
 have B2 := hide b2
 clear b2 HR
 go_wp2_with fail
 rename_i hK
 refine hK _ _ ?_
 clear hK
 go_wp2_with fail
 refine hr.mono ?_
 clear hr
 rintro en w3 ⟨rfl, b3⟩
 have H3 := hide ((Qa B2).trans (b3.mono (Qa B2).size))
 clear b3
 go_wp2_with fail
 exact ⟨rfl, rfl, Kp.of_below (Qa H3)⟩
end
end Go.Proofs.YtccehgfecaamoaaGreatDoor
namespace Go.Proofs
open Go.Shelf
def Tryz.lays110_ren : Go.Shelf.Ren := ⟨fun | 110 => 141 | 109 => 158 | n => n, fun | 31 => 70 | 9 => 9 | 4 => 4 | 3 => 3 | 0 => 0 | n => n, fun | n => n⟩
theorem Tryz.lays110 : Go.Proofs.Lays.n110 Tryz.prog Tryz.lays110_ren := {
  mixed := by kernel_rfl
  f109 := Tryz.func158.trans (congrArg some (by kernel_rfl))
  f110 := Tryz.func141.trans (congrArg some (by kernel_rfl))
  t0 := Tryz.underlying0
  a0 := Tryz.isAgg0
  z0 := Tryz.sizeOf0
  v0 := Tryz.zeroValue0
  t3 := Tryz.underlying3
  a3 := Tryz.isAgg3
  z3 := Tryz.sizeOf3
  v3 := Tryz.zeroValue3
  t4 := Tryz.underlying4
  a4 := Tryz.isAgg4
  z4 := Tryz.sizeOf4
  v4 := Tryz.zeroValue4
  t9 := Tryz.underlying9
  a9 := Tryz.isAgg9
  z9 := Tryz.sizeOf9
  v9 := Tryz.zeroValue9
  t31 := Tryz.underlying70
  a31 := Tryz.isAgg70
  z31 := Tryz.sizeOf70
  v31 := Tryz.zeroValue70 }
open Go.Lib in
theorem Tryz.slices_Contains_string (b off n c : Nat) (zs : List ByteArray) (x : ByteArray) (w : World) (hz : n ≤ zs.length) (hbig : n ≤ 9223372036854775807) (hc : ∀ j, j < zs.length → w.cell? ⟨b, off + j, none⟩ = some (.string (zs.getD j ByteArray.empty))) :
    Calls Tryz.prog 141 #[.slice (some ⟨b, off, none⟩) n c, .string x] w fun e w' => e = .returned (.bool (Lib.containsS (zs.take n) x)) ∧ w' = w := Any.slices_Contains_string Tryz.lays110 b off n c zs x w hz hbig hc
end Go.Proofs
namespace Go.Proofs.YtccehgfecaamoaaGreatDoor
section
open Go.RowKit
theorem Qwk : ∀ (l : Txt) (c : UInt8), decide (0 ≤ Lib.indexByte l c) = l.contains c
 | [], c => by simp [Lib.indexByte]
 | b :: l, c => by
  have ih := Qwk l c
  unfold Lib.indexByte
  by_cases e : b = c
  · subst e; simp
  have e1 : (b == c) = false := by simpa using e
  have e2 : (c == b) = false := by simpa using (fun h => e h.symm)
  rw [e1, List.contains_cons, e2, Bool.false_or, ← ih]
  simp only [Bool.false_eq_true, if_false]
  have hm := Lib.indexByte_ge l c
  by_cases h1 : Lib.indexByte l c = -1
  · rw [h1]; simp
  have : (Lib.indexByte l c == -1) = false := by simpa using h1
  rw [this]
  simp only [Bool.false_eq_true, if_false]
  rw [Bool.eq_iff_iff]; simp; omega

theorem Qtf (t : Tok) (w : World) :
  Calls Tryz.prog 140 #[.agg #[.int .i64 t.kind, str t.text, .int .i64 t.num, .int .i64 (t.at_ : Int)]] w fun en w' => en = .returned (.bool (isW1 t)) ∧ Below w.heap.size w w' := by
 have hc : ∀ v, Calls Tryz.prog 157 #[.string ⟨t.text.toArray⟩, .string ⟨#[46]⟩] v fun e w' => e = .returned (.bool (t.text.contains 46)) ∧ w' = v := fun v => by
  rw [← Qwk]
  exact Tryz.strings_Contains_one ⟨t.text.toArray⟩ 46 v
 have HC := hide hc
 have hA := hide (show isW1 t = (decide (t.kind = 1) && decide (t.text ≠ [95]) && !t.text.contains 46) from rfl)
 clear hc
 by_cases h1 : t.kind = 1
 ·
  have k1 : (t.kind == 1) = true := by simpa using h1
  by_cases h2 : t.text = [95]
  ·
   have k2 : (t.text == [95]) = true := by simpa using h2
   have HK := hide (Ya h1 h2)
   clear h1 h2 HC
   go_enter Tryz.func140, Tryz.ntmps140
   go_wp2_with fail
   go_ret
   exact ⟨by rw [Qa hA, decide_eq_true (Qa HK).1, (Qa HK).2]; rfl, (Below.refl _ w).alloc (Nat.le_refl _) _⟩
  have k2 : (t.text == [95]) = false := by simpa using h2
  have HK := hide (Ya h1 h2)
  have hc := Qa HC (w.alloc (.cells #[.int .i64 t.kind, str t.text, .int .i64 t.num, .int .i64 (t.at_ : Int)] 83))
  clear h1 h2 HC
  generalize hq : t.text.contains 46 = q at hc
  have HQ := hide hq
  clear hq
  go_enter Tryz.func140, Tryz.ntmps140
  go_wp2_with fail
  refine hc.mono ?_
  clear hc
  rintro en w2 ⟨rfl, hw2⟩
  subst hw2
  go_wp2_with fail
  go_ret
  exact ⟨by rw [Qa hA, decide_eq_true (Qa HK).1, decide_eq_true (Qa HK).2, Qa HQ]; rfl, (Below.refl _ w).alloc (Nat.le_refl _) _⟩
 have k1 : (t.kind == 1) = false := by simpa using h1
 have HK := hide h1
 clear h1 HC
 go_enter Tryz.func140, Tryz.ntmps140
 go_wp2_with fail
 go_ret
 exact ⟨by rw [Qa hA, decide_eq_false (Qa HK)]; rfl, (Below.refl _ w).alloc (Nat.le_refl _) _⟩

theorem Qcp {rb e : Nat} {w : World} {l : List Tok} {it dp : Nat} (h : Rd rb e w l it dp) :
  Calls Tryz.prog 111 #[.pointer (some ⟨rb, 0, none⟩)] w fun en w' => Ans rb e dp w (fun _ v x => v = str x) (wordQ e l it) en w' := by
 have ha := Qau h 0
 unfold tokV at ha
 have HW := hide (fun v => Qtf (ahd e 0 l) v)
 cases hS : isW1 (ahd e 0 l) with
 | true =>
  have E : wordQ e l it = .ok (ahd e 0 l).text (l.drop 1) it := if_pos hS
  rw [E]
  have hk1 : (ahd e 0 l).kind = 1 := by
   unfold isW1 at hS
   simp only [Bool.and_eq_true, decide_eq_true_eq] at hS
   exact hS.1.1
  obtain ⟨t, l', rfl, hk⟩ := Qem hk1 (by decide)
  have HT : Hid (∀ v, Below w.heap.size w v → Calls Tryz.prog 110 #[.pointer (some ⟨rb, 0, none⟩)] v fun en w' => en = .returned (.agg #[.int .i64 t.kind, str t.text, .int .i64 t.num, .int .i64 (t.at_ : Int)]) ∧ Rd rb e w' l' it dp ∧ Kp rb v w') := fun v hv => Qbu (h.later hv)
  have e0 : ahd e 0 (t :: l') = t := rfl
  rw [e0] at ha HW hS
  rw [e0]
  clear h E hk e0 hk1
  go_enter Tryz.func111, Tryz.ntmps111
  go_wp2_with fail
  refine ha.mono ?_
  clear ha
  rintro en w2 ⟨rfl, b2⟩
  have hw := Qa HW w2
  rw [hS] at hw
  have B2 := hide b2
  clear b2 HW
  go_wp2_with fail
  refine hw.mono ?_
  clear hw
  rintro en w3 ⟨rfl, b3⟩
  have b3' := (Qa B2).trans (b3.mono (Qa B2).size)
  have ht := Qa HT w3 b3'
  have B3 := hide b3'
  clear b3 b3' HT
  go_wp2_with fail
  refine ht.mono ?_
  clear ht
  rintro en w4 ⟨rfl, hR4, k4⟩
  have H4 := hide (Ya hR4 ((Kp.of_below (Qa B3)).trans k4))
  clear hR4 k4
  go_wp2_with fail
  rename_i hK
  refine hK _ _ ?_
  clear hK
  go_wp2_with fail
  go_ret
  exact ⟨_, rfl, rfl, Qa H4⟩
 | false =>
  have E : wordQ e l it = .bad 10 (ahd e 0 l).at_ l := if_neg (by rw [hS]; simp)
  rw [E]
  have HR : Hid (∀ v, Below w.heap.size w v → Calls Tryz.prog 91 #[.pointer (some ⟨rb, 0, none⟩), .int .i64 10] v fun en w' => en = .panicked [{ v := stopV 10 (ahd e 0 l).at_, recovered := false }] ∧ Below v.heap.size v w') := fun v hv => Qbr (h.later hv) 10
  generalize ahd e 0 l = t at ha hS HR HW
  clear h E
  go_enter Tryz.func111, Tryz.ntmps111
  go_wp2_with fail
  refine ha.mono ?_
  clear ha
  rintro en w2 ⟨rfl, b2⟩
  have hw := Qa HW w2
  rw [hS] at hw
  have B2 := hide b2
  clear b2 HW
  go_wp2_with fail
  refine hw.mono ?_
  clear hw
  rintro en w3 ⟨rfl, b3⟩
  have b3' := (Qa B2).trans (b3.mono (Qa B2).size)
  have hr := Qa HR w3 b3'
  have B3 := hide b3'
  clear b3 b3' HR
  go_wp2_with fail
  refine hr.mono ?_
  clear hr
  rintro en w4 ⟨rfl, b4⟩
  have H4 := hide ((Qa B3).trans (b4.mono (Qa B3).size))
  clear b4
  go_wp2_with fail
  exact ⟨rfl, rfl, Kp.of_below (Qa H4)⟩

theorem Qgb {rb e : Nat} {w : World} {l : List Tok} {it dp : Nat} (h : Rd rb e w l it dp) (hd : dp < 32) :
  Calls Tryz.prog 119 #[.pointer (some ⟨rb, 0, none⟩)] w fun en w' => en = .returned (.tuple #[]) ∧ Rd rb e w' l it (dp + 1) ∧ Kp rb w w' := by
 obtain ⟨v, hbx, hT⟩ := h.box
 have c3 : w.cell? ⟨rb, 3, none⟩ = some (.int .i64 (dp : Int)) := by rw [Qab hbx]; rfl
 have f3 : w.frozen? ⟨rb, 3, none⟩ = false := by simp [World.frozen?, hbx]
 have hz : ((dp : Int) == 32) = false := by simp; omega
 have HF : Hid (Rd rb e (w.setCell ⟨rb, 3, none⟩ (.int .i64 ((dp : Int) + 1))) l it (dp + 1)) := ⟨⟨v, by have := Qad hbx 3 (.int .i64 ((dp : Int) + 1)); exact this.trans (by rw [Int.natCast_add]; rfl), hT.kp (Kp.set rb w 3 _)⟩, h.num, h.len, h.end_⟩
 clear h hbx hT
 go_enter Tryz.func119, Tryz.ntmps119
 go_wp2_with fail
 go_end0
 exact ⟨rfl, Qa HF, Kp.set rb w 3 _⟩
theorem Qky {rb e : Nat} {w : World} {l : List Tok} {it : Nat} (h : Rd rb e w l it 32) :
  Calls Tryz.prog 119 #[.pointer (some ⟨rb, 0, none⟩)] w fun en w' => en = .panicked [{ v := stopV 4 (ahd e 0 l).at_, recovered := false }] ∧ Below w.heap.size w w' := by
 obtain ⟨v, hbx, hT⟩ := h.box
 have c3 : w.cell? ⟨rb, 3, none⟩ = some (.int .i64 32) := by rw [Qab hbx]; rfl
 have hr := Qbr h 4
 clear h hbx hT
 go_enter Tryz.func119, Tryz.ntmps119
 go_wp2_with fail
 refine hr.mono ?_
 clear hr
 rintro en w4 ⟨rfl, b4⟩
 have H4 := hide b4
 clear b4
 go_wp2_with fail
 exact ⟨rfl, rfl, Qa H4⟩
theorem Qdl {rb e : Nat} {w : World} {l : List Tok} {it dp : Nat} (h : Rd rb e w l it (dp + 1)) (hd : dp < 32) :
  Calls Tryz.prog 123 #[.pointer (some ⟨rb, 0, none⟩)] w fun en w' => en = .returned (.tuple #[]) ∧ Rd rb e w' l it dp ∧ Kp rb w w' := by
 obtain ⟨v, hbx, hT⟩ := h.box
 have c3 : w.cell? ⟨rb, 3, none⟩ = some (.int .i64 ((dp : Int) + 1)) := by rw [Qab hbx, Int.natCast_add]; rfl
 have f3 : w.frozen? ⟨rb, 3, none⟩ = false := by simp [World.frozen?, hbx]
 have HF : Hid (Rd rb e (w.setCell ⟨rb, 3, none⟩ (.int .i64 (dp : Int))) l it dp) := ⟨⟨v, Qad hbx 3 (.int .i64 (dp : Int)), hT.kp (Kp.set rb w 3 _)⟩, h.num, h.len, h.end_⟩
 clear h hbx hT
 go_enter Tryz.func123, Tryz.ntmps123
 go_wp2_with fail
 go_end0
 exact ⟨rfl, by simpa using Qa HF, Kp.set rb w 3 _⟩
end
section
open Go.RowKit
def SgAt (rb : Nat) (w : World) (v : Value) (ss : List Txt) : Prop := ∃ b off c, v = .slice (some ⟨b, off, none⟩) ss.length c ∧ b ≠ rb ∧ b < w.heap.size ∧ ∀ j x, ss[j]? = some x → w.cell? ⟨b, off + j, none⟩ = some (str x)
theorem SgAt.kp {rb : Nat} {w w' : World} {v : Value} {ss : List Txt} (h : SgAt rb w v ss) (k : Kp rb w w') : SgAt rb w' v ss := by
 obtain ⟨b, off, c, h1, h2, h3, h4⟩ := h
 refine ⟨b, off, c, h1, h2, by have := k.size; omega, fun j x hx => ?_⟩
 have := h4 j x hx
 simp only [World.cell?] at this ⊢
 rw [k.block b h3 h2]; exact this
theorem Qhc {rb : Nat} {w : World} {v : Value} {ss : List Txt} (h : SgAt rb w v ss) (hl : ss.length ≤ 100) (g : Txt) :
  Calls Tryz.prog 141 #[v, str g] w fun en w' => en = .returned (.bool (decide (g ∈ ss))) ∧ w' = w := by
 obtain ⟨b, off, c, rfl, h2, h3, h4⟩ := h
 have := Tryz.slices_Contains_string b off ss.length c (ss.map fun x => (⟨x.toArray⟩ : ByteArray)) ⟨g.toArray⟩ w (by simp) (by omega) (fun j hj => by
  have hj' : j < ss.length := by simpa using hj
  rw [List.getD_eq_getElem?_getD, List.getElem?_map, List.getElem?_eq_getElem hj']
  exact h4 j _ (List.getElem?_eq_getElem hj'))
 refine this.mono ?_
 rintro en w' ⟨rfl, rfl⟩
 refine ⟨?_, rfl⟩
 congr 2
 rw [Bool.eq_iff_iff, Lib.containsS_iff, decide_eq_true_eq, List.take_of_length_le (by simp), List.mem_map]
 constructor
 · rintro ⟨x, hx, e⟩; rw [Qzw.1 e] at hx; exact hx
 · exact fun hx => ⟨g, hx, rfl⟩

theorem Qgp {rb e : Nat} {w : World} {l : List Tok} {it dp : Nat} (h : Rd rb e w l it dp) (v : Value) (ss : List Txt) (hs : SgAt rb w v ss) (hl : ss.length ≤ 100) (hne : [] ∉ ss) :
  Calls Tryz.prog 112 #[.pointer (some ⟨rb, 0, none⟩), v] w fun en w' => Ans rb e dp w (fun _ v x => v = str x) (choose e ss l it) en w' := by
 have hg := Qdv h
 have HC : Hid (∀ u, Below w.heap.size w u → Calls Tryz.prog 141 #[v, str (sgn e l)] u fun en w' => en = .returned (.bool (decide (sgn e l ∈ ss))) ∧ w' = u) := fun u hu => Qhc (hs.kp (Kp.of_below hu)) hl _
 obtain ⟨b, off, c, ev, _⟩ := id hs
 subst ev
 by_cases hS : sgn e l ∈ ss
 ·
  have E : choose e ss l it = .ok (ahd e 0 l).text (l.drop 1) it := if_pos hS
  rw [E]
  obtain ⟨t, l', rfl, hq⟩ := Qci (s := sgn e l) rfl (fun e => hne (e ▸ hS))
  clear hq
  have HT : Hid (∀ v, Below w.heap.size w v → Calls Tryz.prog 110 #[.pointer (some ⟨rb, 0, none⟩)] v fun en w' => en = .returned (.agg #[.int .i64 t.kind, str t.text, .int .i64 t.num, .int .i64 (t.at_ : Int)]) ∧ Rd rb e w' l' it dp ∧ Kp rb v w') := fun v hv => Qbu (h.later hv)
  have e0 : ahd e 0 (t :: l') = t := rfl
  rw [e0]
  rw [decide_eq_true hS] at HC
  generalize sgn e (t :: l') = g at hg HC
  clear h E e0 hS hs
  go_enter Tryz.func112, Tryz.ntmps112
  go_wp2_with fail
  refine hg.mono ?_
  clear hg
  rintro en w2 ⟨rfl, b2⟩
  have hc := Qa HC w2 b2
  have ht := Qa HT w2 b2
  have B2 := hide b2
  clear b2 HC HT
  go_wp2_with fail
  refine hc.mono ?_
  clear hc
  rintro en w3 ⟨rfl, hw3⟩
  subst hw3
  go_wp2_with fail
  refine ht.mono ?_
  clear ht
  rintro en w4 ⟨rfl, hR4, k4⟩
  have H4 := hide (Ya hR4 ((Kp.of_below (Qa B2)).trans k4))
  clear hR4 k4
  go_wp2_with fail
  rename_i hK
  refine hK _ _ ?_
  clear hK
  go_wp2_with fail
  go_ret
  exact ⟨_, rfl, rfl, Qa H4⟩
 have E : choose e ss l it = .bad 10 (ahd e 0 l).at_ l := if_neg hS
 rw [E]
 have HR : Hid (∀ v, Below w.heap.size w v → Calls Tryz.prog 91 #[.pointer (some ⟨rb, 0, none⟩), .int .i64 10] v fun en w' => en = .panicked [{ v := stopV 10 (ahd e 0 l).at_, recovered := false }] ∧ Below v.heap.size v w') := fun v hv => Qbr (h.later hv) 10
 rw [decide_eq_false hS] at HC
 generalize (ahd e 0 l).at_ = at0 at HR
 generalize sgn e l = g at hg HC
 clear h E hS hs
 go_enter Tryz.func112, Tryz.ntmps112
 go_wp2_with fail
 refine hg.mono ?_
 clear hg
 rintro en w2 ⟨rfl, b2⟩
 have hc := Qa HC w2 b2
 have hr := Qa HR w2 b2
 have B2 := hide b2
 clear b2 HC HR
 go_wp2_with fail
 refine hc.mono ?_
 clear hc
 rintro en w3 ⟨rfl, hw3⟩
 subst hw3
 go_wp2_with fail
 refine hr.mono ?_
 clear hr
 rintro en w4 ⟨rfl, b4⟩
 have H4 := hide ((Qa B2).trans (b4.mono (Qa B2).size))
 clear b4
 go_wp2_with fail
 exact ⟨rfl, rfl, Kp.of_below (Qa H4)⟩

theorem Qf {rb e : Nat} {w : World} {l : List Tok} {it dp : Nat} (h : Rd rb e w l it dp) :
  Calls Tryz.prog 118 #[.pointer (some ⟨rb, 0, none⟩)] w fun en w' => en = .returned (.bool (callN e l)) ∧ Below w.heap.size w w' := by
 have h1 := Qau h 1
 unfold tokV at h1
 have H0 : Hid (∀ v, Below w.heap.size w v → Calls Tryz.prog 60 #[.pointer (some ⟨rb, 0, none⟩), .int .i64 0] v fun en w' => en = .returned (.agg #[.int .i64 (ahd e 0 l).kind, str (ahd e 0 l).text, .int .i64 (ahd e 0 l).num, .int .i64 ((ahd e 0 l).at_ : Int)]) ∧ Below v.heap.size v w') := fun v hv => Qau (h.later hv) 0
 have hA := hide (show callN e l = (decide ((ahd e 0 l).kind = 1) && decide ((ahd e 1 l).kind = 4) && decide ((ahd e 1 l).text = [40])) from rfl)
 clear h
 generalize ahd e 0 l = s at H0 hA
 generalize ahd e 1 l = t at h1 hA
 have k1 : (s.kind == 1) = decide (s.kind = 1) := rfl
 have k2 : (t.kind == 4) = decide (t.kind = 4) := rfl
 go_enter Tryz.func118, Tryz.ntmps118
 go_wp2_with fail
 refine h1.mono ?_
 clear h1
 rintro en w2 ⟨rfl, b2⟩
 obtain ⟨w3, hw3⟩ : ∃ w3, w3 = w2.alloc (.cells #[.int .i64 t.kind, str t.text, .int .i64 t.num, .int .i64 (t.at_ : Int)] 83) := ⟨_, rfl⟩
 have b3 : Below w.heap.size w w3 := by rw [hw3]; exact b2.alloc b2.size _
 have n3 : w3.heap[w2.heap.size]? = some (.cells #[.int .i64 t.kind, str t.text, .int .i64 t.num, .int .i64 (t.at_ : Int)] 83 (0, 0)) := nnw hw3
 have h0 := Qa H0 w3 b3
 have N3 := hide (Ya b3 n3)
 have HW3 := hide hw3
 clear b2 b3 n3 H0 hw3
 go_wp2_with fail
 rw [← Qa HW3]
 refine h0.mono ?_
 clear h0
 rintro en w4 ⟨rfl, b4⟩
 have n4 : w4.heap[w2.heap.size]? = some (.cells #[.int .i64 t.kind, str t.text, .int .i64 t.num, .int .i64 (t.at_ : Int)] 83 (0, 0)) := (b4.block _ (Qag (Qa N3).2)).trans (Qa N3).2
 have c0 := (Qab n4 0).trans (show _ = some (.int .i64 t.kind) from rfl)
 have c1 := (Qab n4 1).trans (show _ = some (str t.text) from rfl)
 have B4 := hide ((Qa N3).1.trans (b4.mono (Qa N3).1.size))
 clear b4 n4
 go_wp2_with fail
 rename_i hK
 refine hK _ _ ?_
 clear hK
 by_cases e1 : s.kind = 1
 ·
  have q1 : (s.kind == 1) = true := by simpa using e1
  by_cases e2 : t.kind = 4
  ·
   have q2 : (t.kind == 4) = true := by simpa using e2
   have HK := hide (Ya e1 e2)
   clear e1 e2 k1 k2
   go_wp2_with fail
   go_ret
   refine ⟨?_, Qa B4⟩
   rw [Qa hA, decide_eq_true (Qa HK).1, decide_eq_true (Qa HK).2, Bool.true_and, Bool.true_and]
   show Ending.returned (.bool (t.text == [40])) = _
   congr 2
   rw [Bool.eq_iff_iff]; simp
  have q2 : (t.kind == 4) = false := by simpa using e2
  have HK := hide (Ya e1 e2)
  clear e1 e2 k1 k2
  go_wp2_with fail
  go_ret
  exact ⟨by rw [Qa hA, decide_eq_true (Qa HK).1, decide_eq_false (Qa HK).2]; rfl, Qa B4⟩
 have q1 : (s.kind == 1) = false := by simpa using e1
 have HK := hide e1
 clear e1 k1 k2
 go_wp2_with fail
 go_ret
 exact ⟨by rw [Qa hA, decide_eq_false (Qa HK)]; rfl, Qa B4⟩
end
section
/-- What is left is no longer than what was there. -/
def Shr {α : Type} (p : Pr α) : Prop := ∀ l i x l' i', p l i = .ok x l' i' → l'.length ≤ l.length
theorem Qaj {α β : Type} {r : Rs α} {f : α → Pr β} {x : β} {l : List Tok} {i : Nat} (h : r.bind f = .ok x l i) : ∃ a l1 i1, r = .ok a l1 i1 ∧ f a l1 i1 = .ok x l i := by
 cases r with
 | bad w a l => cases h
 | ok a l1 i1 => exact ⟨a, l1, i1, rfl, h⟩
theorem Qas {α β : Type} {r : Rs α} {f : α → β} {x : β} {l : List Tok} {i : Nat} (h : r.map f = .ok x l i) : ∃ a, r = .ok a l i ∧ f a = x := by
 cases r with
 | bad w a l => cases h
 | ok a l1 i1 =>
  simp only [Rs.map, Rs.ok.injEq] at h
  obtain ⟨h1, rfl, rfl⟩ := h
  exact ⟨a, rfl, h1⟩
theorem Qby (l : List Tok) : (l.drop 1).length ≤ l.length := by simp
section
variable {e : Nat}
theorem Qde (s : Txt) : Shr (want e s) := fun l i x l' i' h => by
 unfold want at h
 split at h
 · cases h; exact Qby l
 · cases h
theorem Qgw (ss : List Txt) : Shr (choose e ss) := fun l i x l' i' h => by
 unfold choose at h
 split at h
 · cases h; exact Qby l
 · cases h
theorem Qjx : Shr (nmQ e) := fun l i x l' i' h => by
 unfold nmQ at h
 split at h
 · cases h; exact Qby l
 · cases h
theorem Qhu : Shr (wordQ e) := fun l i x l' i' h => by
 unfold wordQ at h
 split at h
 · cases h; exact Qby l
 · cases h
theorem Qjy {α : Type} (why : Int) : Shr (refuse (α := α) e why) := fun l i x l' i' h => by cases h
theorem Qnx {α : Type} {sep : Txt} {most : Nat} {p : Pr α} (hp : Shr p) : ∀ f acc, Shr (listL e sep most p f acc)
 | 0, acc, l, i, x, l', i', h => by cases h; exact Nat.le_refl _
 | f + 1, acc, l, i, x, l', i', h => by
  unfold listL at h
  split at h
  · cases h
  obtain ⟨a, l1, i1, h1, h2⟩ := Qaj h
  have g1 := hp _ _ _ _ _ h1
  split at h2
  ·
   have := Qnx hp f _ _ _ _ _ _ h2
   have := Qby l1
   omega
  · cases h2; exact g1
theorem Qht {α : Type} {sep : Txt} {most : Nat} {p : Pr α} (hp : Shr p) : Shr (listP e sep most p) := fun _ _ _ _ _ h => Qnx hp _ _ _ _ _ _ _ h
theorem Qgl {α : Type} {op cl : Txt} {p : Pr α} (hp : Shr p) : Shr (encl e op cl p) := fun l i x l' i' h => by
 unfold encl at h
 obtain ⟨a, l1, i1, h1, h2⟩ := Qaj h
 have g1 := Qde _ _ _ _ _ _ h1
 split at h2
 ·
  cases h2
  have := Qby l1
  omega
 obtain ⟨b, l2, i2, h3, h4⟩ := Qaj h2
 have g2 := Qht hp _ _ _ _ _ h3
 obtain ⟨c, h5, _⟩ := Qas h4
 have g3 := Qde _ _ _ _ _ _ h5
 omega
theorem Qnw {p : Pr Ex} {ss : List Txt} (hp : Shr p) : ∀ f x, Shr (joinL e p ss f x)
 | 0, x, l, i, y, l', i', h => by cases h; exact Nat.le_refl _
 | f + 1, x, l, i, y, l', i', h => by
  unfold joinL at h
  split at h
  ·
   obtain ⟨a, l1, i1, h1, h2⟩ := Qaj h
   have g1 := hp _ _ _ _ _ h1
   have g2 := Qnw hp f _ _ _ _ _ _ h2
   have := Qby l
   omega
  · cases h; exact Nat.le_refl _
theorem Qgx {p : Pr Ex} {ss : List Txt} (hp : Shr p) : Shr (joined e p ss) := fun l i x l' i' h => by
 unfold joined at h
 obtain ⟨a, l1, i1, h1, h2⟩ := Qaj h
 have g1 := hp _ _ _ _ _ h1
 have g2 := Qnw hp _ _ _ _ _ _ _ h2
 omega
theorem Qtr {E F : Pr Ex} (hE : Shr E) (hF : Shr F) : Shr (signed e E F) := fun l i x l' i' h => by
 unfold signed at h
 obtain ⟨a, l1, i1, h1, h2⟩ := Qaj h
 have g1 := Qgw _ _ _ _ _ _ h1
 split at h2
 ·
  obtain ⟨b, h3, _⟩ := Qas h2
  have := hF _ _ _ _ _ h3
  omega
 split at h2
 ·
  obtain ⟨b, l2, i2, h3, h4⟩ := Qaj h2
  obtain ⟨c, h5, _⟩ := Qas h4
  have g2 := hE _ _ _ _ _ h3
  have g3 := Qde _ _ _ _ _ _ h5
  omega
 obtain ⟨b, l2, i2, h3, h4⟩ := Qaj h2
 obtain ⟨c, h5, _⟩ := Qas h4
 have g2 := Qhu _ _ _ _ _ h3
 have g3 := Qgl hE _ _ _ _ _ h5
 omega
theorem Qtq {E F : Pr Ex} (hE : Shr E) (hF : Shr F) : Shr (factorB e E F) := fun l i x l' i' h => by
 unfold factorB at h
 split at h
 · cases h; exact Qby l
 split at h
 · cases h; exact Qby l
 split at h
 ·
  split at h
  · cases h; exact Qby l
  obtain ⟨b, h3, _⟩ := Qas h
  exact Qhu _ _ _ _ _ h3
 · exact Qtr hE hF _ _ _ _ _ h
theorem Qfi : ∀ d, Shr (exD e d).1 ∧ Shr (exD e d).2
 | 0 => ⟨Qjy 4, Qjy 4⟩
 | d + 1 => ⟨Qgx (Qgx (Qfi d).2), Qtq (Qfi d).1 (Qfi d).2⟩
theorem Qse (d : Nat) : Shr (atomP e d) := fun l i x l' i' h => by
 unfold atomP at h
 obtain ⟨a, l1, i1, h1, h2⟩ := Qaj h
 obtain ⟨b, h3, _⟩ := Qas h2
 have g1 := Qjx _ _ _ _ _ h1
 have g2 := Qgl (Qfi d).1 _ _ _ _ _ h3
 omega
theorem Qyo (d : Nat) : Shr (litP e d) := fun l i x l' i' h => by
 unfold litP at h
 split at h
 ·
  obtain ⟨b, h3, _⟩ := Qas h
  have := Qse d _ _ _ _ _ h3
  have := Qby l
  omega
 split at h
 ·
  obtain ⟨b, h3, _⟩ := Qas h
  exact Qse d _ _ _ _ _ h3
 obtain ⟨a, l1, i1, h1, h2⟩ := Qaj h
 obtain ⟨b, l2, i2, h3, h4⟩ := Qaj h2
 obtain ⟨c, h5, _⟩ := Qas h4
 have g1 := (Qfi d).1 _ _ _ _ _ h1
 have g2 := Qgw _ _ _ _ _ _ h3
 have g3 := (Qfi d).1 _ _ _ _ _ h5
 omega
theorem Qgm : Shr (fieldP e) := fun l i x l' i' h => by
 unfold fieldP at h
 obtain ⟨a, l1, i1, h1, h2⟩ := Qaj h
 obtain ⟨b, l2, i2, h3, h4⟩ := Qaj h2
 obtain ⟨c, h5, _⟩ := Qas h4
 have g1 := Qhu _ _ _ _ _ h1
 have g2 := Qde _ _ _ _ _ _ h3
 have g3 := Qjx _ _ _ _ _ h5
 omega
theorem Qsf : Shr (ctorP e) := fun l i x l' i' h => by
 unfold ctorP at h
 obtain ⟨a, l1, i1, h1, h2⟩ := Qaj h
 obtain ⟨b, h3, _⟩ := Qas h2
 have g1 := Qhu _ _ _ _ _ h1
 have g2 := Qgl Qgm _ _ _ _ _ h3
 omega
end
end
section
open Go.RowKit
theorem Rd.ne {rb e : Nat} {w : World} {l : List Tok} {it dp : Nat} (h : Rd rb e w l it dp) {k : Nat} (hk : w.heap.size ≤ k) : k ≠ rb := by have := h.lt; omega
theorem Kp.keep {rb : Nat} {w w' : World} {k : Nat} {o : Obj} (h : Kp rb w w') (hk : w.heap[k]? = some o) (hn : k ≠ rb) : w'.heap[k]? = some o := (h.block k (Qag hk) hn).trans hk
theorem Kp.set2 {rb : Nat} {w w' : World} {k i : Nat} {v : Value} (h : Kp rb w w') (hk : w.heap.size ≤ k) : Kp rb w (w'.setCell ⟨k, i, none⟩ v) := by
 have hb := (Below.refl 0 w').setCell (p := ⟨k, i, none⟩) (Nat.zero_le _) v
 exact ⟨hb.os.trans h.os, hb.tape.trans h.tape, hb.output.trans h.output, Nat.le_trans h.size hb.size, fun j hj hn => (hpS (by show j ≠ k; omega)).trans (h.block j hj hn)⟩
theorem Rd.set2 {rb e : Nat} {w : World} {l : List Tok} {it dp : Nat} (h : Rd rb e w l it dp) {k i : Nat} {v : Value} (hk : rb < k) : Rd rb e (w.setCell ⟨k, i, none⟩ v) l it dp := by
 obtain ⟨u, h1, a, cap, h2, h3, h4, h5⟩ := h.box
 refine ⟨⟨u, (hpS (by show rb ≠ k; omega)).trans h1, a, cap, h2, h3, h4, fun j t hj => ?_⟩, h.num, h.len, h.end_⟩
 obtain ⟨b, o, e1, e2, e3⟩ := h5 j t hj
 exact ⟨b, o, e1, e2, e3.same (hpS (by show b ≠ k; omega))⟩

theorem Qwc {rb e : Nat} {w : World} {l : List Tok} {it dp : Nat} (h : Rd rb e w l it dp) :
  Calls Tryz.prog 117 #[.pointer (some ⟨rb, 0, none⟩)] w fun en w' => Ans rb e dp w (fun _ v f => v = .agg #[str f.name, str f.type]) (fieldP e l it) en w' := by
 obtain ⟨w1, hw1⟩ : ∃ w1, w1 = w.alloc (.cells #[.string ⟨#[]⟩, .string ⟨#[]⟩] 138) := ⟨_, rfl⟩
 have b1 : Below w.heap.size w w1 := bnw hw1
 have q1 : w1.heap[w.heap.size]? = some (.cells #[.string ⟨#[]⟩, .string ⟨#[]⟩] 138 (0, 0)) := nnw hw1
 have hw := Qcp (h.later b1)
 have hrb := h.lt
 have K1 := hide (Ya (Kp.of_below (rb := rb) b1) q1)
 have HW1 := hide hw1
 clear b1 q1 hw1
 cases hq : wordQ e l it with
 | bad why a l2 =>
  have E : fieldP e l it = .bad why a l2 := by unfold fieldP; rw [hq]; rfl
  rw [E]
  rw [hq] at hw
  clear h E hq
  go_enter Tryz.func117, Tryz.ntmps117
  go_wp2_with fail
  rw [← Qa HW1]
  refine hw.mono ?_
  clear hw
  rintro en w2 ⟨rfl, k2⟩
  have H2 := hide ((Qa K1).1.trans k2)
  clear k2
  go_wp2_with fail
  exact ⟨rfl, rfl, Qa H2⟩
 | ok n l2 i2 =>
  have E1 : fieldP e l it = (want e [58] l2 i2).bind fun _ l i => (nmQ e l i).map fun t => ⟨n, t⟩ := by unfold fieldP; rw [hq]; rfl
  rw [hq] at hw
  clear hq
  obtain ⟨PO, hPO⟩ : ∃ PO : Ending → World → Prop, PO = fun en w' => Ans rb e dp w (fun _ v (f : Fld) => v = .agg #[str f.name, str f.type]) (fieldP e l it) en w' := ⟨_, rfl⟩
  rw [← hPO]
  rw [E1] at hPO
  have HPO := hide hPO
  clear h E1 hPO
  go_enter Tryz.func117, Tryz.ntmps117
  go_wp2_with fail
  rw [← Qa HW1]
  refine hw.mono ?_
  clear hw
  rintro en w2 ⟨_, rfl, rfl, hR2, k2⟩
  obtain ⟨w3, hw3⟩ : ∃ w3, w3 = w2.alloc (.cells #[str n, .string ⟨#[]⟩] 138) := ⟨_, rfl⟩
  have b3 : Below w2.heap.size w2 w3 := bnw hw3
  have q3 : w3.heap[w2.heap.size]? = some (.cells #[str n, .string ⟨#[]⟩] 138 (0, 0)) := nnw hw3
  have hwt := Qch (hR2.later b3) [58] (by simp)
  have k3 : Kp rb w w3 := ((Qa K1).1.trans k2).trans (Kp.of_below b3)
  have q0 := k2.keep (Qa K1).2 (by omega)
  have q0' := (b3.block _ (Qag q0)).trans q0
  have hlt2 : w.heap.size < w2.heap.size := Qag q0
  have K3 := hide (Ya k3 (Ya q3 q0'))
  have HW3 := hide hw3
  clear hR2 k2 b3 q3 k3 q0 q0' hw3 K1
  cases hq2 : want e [58] l2 i2 with
  | bad why a l3 =>
   rw [hq2] at hwt
   have HP2 : Hid (PO = fun en w' => en = .panicked [{ v := stopV why a, recovered := false }] ∧ Kp rb w w') := by
    have := Qa HPO
    rw [hq2] at this
    exact this
   clear hq2 HPO
   go_wp2_with fail
   rw [← Qa HW3]
   refine hwt.mono ?_
   clear hwt
   rintro en w4 ⟨rfl, k4⟩
   have H4 := hide ((Qa K3).1.trans k4)
   clear k4
   go_wp2_with fail
   refine ⟨rfl, ?_⟩
   rw [Qa HP2]
   exact ⟨rfl, Qa H4⟩
  | ok u l3 i3 =>
   rw [hq2] at hwt
   have HP2 : Hid (PO = fun en w' => Ans rb e dp w (fun _ v (f : Fld) => v = .agg #[str f.name, str f.type]) ((nmQ e l3 i3).map fun t => ⟨n, t⟩) en w') := by
    have := Qa HPO
    rw [hq2] at this
    exact this
   clear hq2 HPO
   go_wp2_with fail
   rw [← Qa HW3]
   refine hwt.mono ?_
   clear hwt
   rintro en w4 ⟨_, rfl, rfl, hR4, k4⟩
   have hnm := Qgf hR4
   have q4 := k4.keep (Qa K3).2.1 (by omega)
   have p4 := k4.keep (Qa K3).2.2 (by omega)
   have K4 := hide (Ya ((Qa K3).1.trans k4) (Ya q4 p4))
   clear hR4 k4 q4 p4 K3
   cases hq3 : nmQ e l3 i3 with
   | bad why a l4 =>
    rw [hq3] at hnm
    have HP3 : Hid (PO = fun en w' => en = .panicked [{ v := stopV why a, recovered := false }] ∧ Kp rb w w') := by
     have := Qa HP2
     rw [hq3] at this
     exact this
    clear hq3 HP2
    go_wp2_with fail
    refine hnm.mono ?_
    clear hnm
    rintro en w5 ⟨rfl, k5⟩
    have H5 := hide ((Qa K4).1.trans k5)
    clear k5
    go_wp2_with fail
    refine ⟨rfl, ?_⟩
    rw [Qa HP3]
    exact ⟨rfl, Qa H5⟩
   | ok t l4 i4 =>
    rw [hq3] at hnm
    have HP3 : Hid (PO = fun en w' => ∃ v, en = .returned v ∧ v = .agg #[str n, str t] ∧ Rd rb e w' l4 i4 dp ∧ Kp rb w w') := by
     have := Qa HP2
     rw [hq3] at this
     exact this
    clear hq3 HP2
    go_wp2_with fail
    refine hnm.mono ?_
    clear hnm
    rintro en w5 ⟨_, rfl, rfl, hR5, k5⟩
    have q5 := k5.keep (Qa K4).2.1 (by omega)
    have p5 := k5.keep (Qa K4).2.2 (by omega)
    have s5 := Qag q5
    have kk := (Qa K4).1.trans k5
    have c1 : w5.cell? ⟨w2.heap.size, 1, none⟩ = some (.string ⟨#[]⟩) := by rw [Qab q5]; rfl
    have f1 : w5.frozen? ⟨w2.heap.size, 1, none⟩ = false := by simp [World.frozen?, q5]
    have q6 : (w5.setCell ⟨w2.heap.size, 1, none⟩ (str t)).heap[w2.heap.size]? = some (.cells #[str n, str t] 138 (0, 0)) := (Qad q5 1 (str t)).trans rfl
    have p6 : (w5.setCell ⟨w2.heap.size, 1, none⟩ (str t)).heap[w.heap.size]? = some (.cells #[.string ⟨#[]⟩, .string ⟨#[]⟩] 138 (0, 0)) := (hpS (by show w.heap.size ≠ w2.heap.size; omega)).trans p5
    have x0 := (Qab q6 0).trans (show _ = some (str n) from rfl)
    have x1 := (Qab q6 1).trans (show _ = some (str t) from rfl)
    have y0 := (Qab p6 0).trans (show _ = some (.string ⟨#[]⟩) from rfl)
    have y1 := (Qab p6 1).trans (show _ = some (.string ⟨#[]⟩) from rfl)
    have yf : ∀ o, (w5.setCell ⟨w2.heap.size, 1, none⟩ (str t)).frozen? ⟨w.heap.size, o, none⟩ = false := fun o => by simp [World.frozen?, p6]
    have HF : Hid (∀ a b, Rd rb e (((w5.setCell ⟨w2.heap.size, 1, none⟩ (str t)).setCell ⟨w.heap.size, 0, none⟩ a).setCell ⟨w.heap.size, 1, none⟩ b) l4 i4 dp ∧ Kp rb w (((w5.setCell ⟨w2.heap.size, 1, none⟩ (str t)).setCell ⟨w.heap.size, 0, none⟩ a).setCell ⟨w.heap.size, 1, none⟩ b)) := fun a b =>
     ⟨((hR5.set2 (by omega)).set2 (by omega)).set2 (by omega), ((kk.set2 (by omega)).set2 (Nat.le_refl _)).set2 (Nat.le_refl _)⟩
    clear hR5 k5 q5 p5 kk q6 p6 K4
    go_wp2_with fail
    refine bodyPost_ret (v := .agg #[str n, str t]) (by simp [results, Tryz.results117, go_sem, y0, y1]) rfl ?_
    rw [Qa HP3]
    exact ⟨_, rfl, rfl, Qa HF _ _⟩
end
end Go.Proofs.YtccehgfecaamoaaGreatDoor
