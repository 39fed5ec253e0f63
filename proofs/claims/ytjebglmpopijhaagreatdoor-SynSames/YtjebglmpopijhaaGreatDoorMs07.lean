/- syn's reader: words, calls, depth, choices. syn's reader: what stands behind a name; one of some signs. The plain reading never gives tokens back. syn: a field. syn: lists of what was read, in memory. syn: the generic list, at Ex. -/
import Derived.Test.YtjebglmpopijhaaGreatDoorMs06
import Derived.Test.YtjebglmpopijhaaGreatDoorMs02
import Derived.Maps.AppendAt
set_option maxRecDepth 100000
set_option maxHeartbeats 32000000
namespace Go.Proofs.YtjebglmpopijhaaGreatDoor
section
open Go.RowKit
theorem Qos : ∀ (l : Txt) (c : UInt8), decide (0 ≤ Lib.indexByte l c) = l.contains c
 | [], c => by simp [Lib.indexByte]
 | b :: l, c => by
  have ih := Qos l c
  unfold Lib.indexByte
  by_cases e : b = c
  · subst e; simp
  have e1 : (b == c) = false := by simpa using e
  have e2 : (c == b) = false := by simpa using (fun h => e h.symm)
  rw [e1, List.contains_cons, e2, Bool.false_or, ← ih]
  simp only [Bool.false_eq_true, if_false]
  have hm := Lib.indexByte_ge l c
  by_cases h1 : Lib.indexByte l c = -1
  · rw [h1]; simp
  have : (Lib.indexByte l c == -1) = false := by simpa using h1
  rw [this]
  simp only [Bool.false_eq_true, if_false]
  rw [Bool.eq_iff_iff]; simp; omega

theorem Qms (t : Tok) (w : World) :
  Calls Tryz.prog 178 #[.agg #[.int .i64 t.kind, str t.text, .int .i64 t.num, .int .i64 (t.at_ : Int)]] w fun en w' => en = .returned (.bool (isW1 t)) ∧ Below w.heap.size w w' := by
 have hc : ∀ v, Calls Tryz.prog 196 #[.string ⟨t.text.toArray⟩, .string ⟨#[46]⟩] v fun e w' => e = .returned (.bool (t.text.contains 46)) ∧ w' = v := fun v => by
  rw [← Qos]
  exact Tryz.strings_Contains_one ⟨t.text.toArray⟩ 46 v
 have HC := hide hc
 have hA := hide (show isW1 t = (decide (t.kind = 1) && decide (t.text ≠ [95]) && !t.text.contains 46) from rfl)
 clear hc
 by_cases h1 : t.kind = 1
 ·
  have k1 : (t.kind == 1) = true := by simpa using h1
  by_cases h2 : t.text = [95]
  ·
   have k2 : (t.text == [95]) = true := by simpa using h2
   have HK := hide (Ya h1 h2)
   clear h1 h2 HC
   go_enter Tryz.func178, Tryz.ntmps178
   go_wp2_with fail
   go_ret
   exact ⟨by rw [Qa hA, decide_eq_true (Qa HK).1, (Qa HK).2]; rfl, (Below.refl _ w).alloc (Nat.le_refl _) _⟩
  have k2 : (t.text == [95]) = false := by simpa using h2
  have HK := hide (Ya h1 h2)
  have hc := Qa HC (w.alloc (.cells #[.int .i64 t.kind, str t.text, .int .i64 t.num, .int .i64 (t.at_ : Int)] 49))
  clear h1 h2 HC
  generalize hq : t.text.contains 46 = q at hc
  have HQ := hide hq
  clear hq
  go_enter Tryz.func178, Tryz.ntmps178
  go_wp2_with fail
  refine hc.mono ?_
  clear hc
  rintro en w2 ⟨rfl, hw2⟩
  subst hw2
  go_wp2_with fail
  go_ret
  exact ⟨by rw [Qa hA, decide_eq_true (Qa HK).1, decide_eq_true (Qa HK).2, Qa HQ]; rfl, (Below.refl _ w).alloc (Nat.le_refl _) _⟩
 have k1 : (t.kind == 1) = false := by simpa using h1
 have HK := hide h1
 clear h1 HC
 go_enter Tryz.func178, Tryz.ntmps178
 go_wp2_with fail
 go_ret
 exact ⟨by rw [Qa hA, decide_eq_false (Qa HK)]; rfl, (Below.refl _ w).alloc (Nat.le_refl _) _⟩

theorem Qkg {rb e : Nat} {w : World} {l : List Tok} {it dp : Nat} (h : Rd rb e w l it dp) :
  Calls Tryz.prog 148 #[.pointer (some ⟨rb, 0, none⟩)] w fun en w' => Ans rb e dp w (fun _ v x => v = str x) (wordQ e l it) en w' := by
 have ha := Qbc h 0
 unfold tokV at ha
 have HW := hide (fun v => Qms (ahd e 0 l) v)
 cases hS : isW1 (ahd e 0 l) with
 | true =>
  have E : wordQ e l it = .ok (ahd e 0 l).text (l.drop 1) it := if_pos hS
  rw [E]
  have hk1 : (ahd e 0 l).kind = 1 := by
   unfold isW1 at hS
   simp only [Bool.and_eq_true, decide_eq_true_eq] at hS
   exact hS.1.1
  obtain ⟨t, l', rfl, hk⟩ := Qef hk1 (by decide)
  have HT : Hid (∀ v, Below w.heap.size w v → Calls Tryz.prog 147 #[.pointer (some ⟨rb, 0, none⟩)] v fun en w' => en = .returned (.agg #[.int .i64 t.kind, str t.text, .int .i64 t.num, .int .i64 (t.at_ : Int)]) ∧ Rd rb e w' l' it dp ∧ Kp rb v w') := fun v hv => Qdf (h.later hv)
  have e0 : ahd e 0 (t :: l') = t := rfl
  rw [e0] at ha HW hS
  rw [e0]
  clear h E hk e0 hk1
  go_enter Tryz.func148, Tryz.ntmps148
  go_wp2_with fail
  refine ha.mono ?_
  clear ha
  rintro en w2 ⟨rfl, b2⟩
  have hw := Qa HW w2
  rw [hS] at hw
  have B2 := hide b2
  clear b2 HW
  go_wp2_with fail
  refine hw.mono ?_
  clear hw
  rintro en w3 ⟨rfl, b3⟩
  have b3' := (Qa B2).trans (b3.mono (Qa B2).size)
  have ht := Qa HT w3 b3'
  have B3 := hide b3'
  clear b3 b3' HT
  go_wp2_with fail
  refine ht.mono ?_
  clear ht
  rintro en w4 ⟨rfl, hR4, k4⟩
  have H4 := hide (Ya hR4 ((Kp.of_below (Qa B3)).trans k4))
  clear hR4 k4
  go_wp2_with fail
  rename_i hK
  refine hK _ _ ?_
  clear hK
  go_wp2_with fail
  go_ret
  exact ⟨_, rfl, rfl, Qa H4⟩
 | false =>
  have E : wordQ e l it = .bad 10 (ahd e 0 l).at_ l := if_neg (by rw [hS]; simp)
  rw [E]
  have HR : Hid (∀ v, Below w.heap.size w v → Calls Tryz.prog 129 #[.pointer (some ⟨rb, 0, none⟩), .int .i64 10] v fun en w' => en = .panicked [{ v := stopV 10 (ahd e 0 l).at_, recovered := false }] ∧ Below v.heap.size v w') := fun v hv => Qcm (h.later hv) 10
  generalize ahd e 0 l = t at ha hS HR HW
  clear h E
  go_enter Tryz.func148, Tryz.ntmps148
  go_wp2_with fail
  refine ha.mono ?_
  clear ha
  rintro en w2 ⟨rfl, b2⟩
  have hw := Qa HW w2
  rw [hS] at hw
  have B2 := hide b2
  clear b2 HW
  go_wp2_with fail
  refine hw.mono ?_
  clear hw
  rintro en w3 ⟨rfl, b3⟩
  have b3' := (Qa B2).trans (b3.mono (Qa B2).size)
  have hr := Qa HR w3 b3'
  have B3 := hide b3'
  clear b3 b3' HR
  go_wp2_with fail
  refine hr.mono ?_
  clear hr
  rintro en w4 ⟨rfl, b4⟩
  have H4 := hide ((Qa B3).trans (b4.mono (Qa B3).size))
  clear b4
  go_wp2_with fail
  exact ⟨rfl, rfl, Kp.of_below (Qa H4)⟩

theorem Qis {rb e : Nat} {w : World} {l : List Tok} {it dp : Nat} (h : Rd rb e w l it dp) (hd : dp < 32) :
  Calls Tryz.prog 156 #[.pointer (some ⟨rb, 0, none⟩)] w fun en w' => en = .returned (.tuple #[]) ∧ Rd rb e w' l it (dp + 1) ∧ Kp rb w w' := by
 obtain ⟨v, hbx, hT⟩ := h.box
 have c3 : w.cell? ⟨rb, 3, none⟩ = some (.int .i64 (dp : Int)) := by rw [Qad hbx]; rfl
 have f3 : w.frozen? ⟨rb, 3, none⟩ = false := by simp [World.frozen?, hbx]
 have hz : ((dp : Int) == 32) = false := by simp; omega
 have HF : Hid (Rd rb e (w.setCell ⟨rb, 3, none⟩ (.int .i64 ((dp : Int) + 1))) l it (dp + 1)) := ⟨⟨v, by have := Qae hbx 3 (.int .i64 ((dp : Int) + 1)); exact this.trans (by rw [Int.natCast_add]; rfl), hT.kp (Kp.set rb w 3 _)⟩, h.num, h.len, h.end_⟩
 clear h hbx hT
 go_enter Tryz.func156, Tryz.ntmps156
 go_wp2_with fail
 go_end0
 exact ⟨rfl, Qa HF, Kp.set rb w 3 _⟩
theorem Qlj {rb e : Nat} {w : World} {l : List Tok} {it : Nat} (h : Rd rb e w l it 32) :
  Calls Tryz.prog 156 #[.pointer (some ⟨rb, 0, none⟩)] w fun en w' => en = .panicked [{ v := stopV 4 (ahd e 0 l).at_, recovered := false }] ∧ Below w.heap.size w w' := by
 obtain ⟨v, hbx, hT⟩ := h.box
 have c3 : w.cell? ⟨rb, 3, none⟩ = some (.int .i64 32) := by rw [Qad hbx]; rfl
 have hr := Qcm h 4
 clear h hbx hT
 go_enter Tryz.func156, Tryz.ntmps156
 go_wp2_with fail
 refine hr.mono ?_
 clear hr
 rintro en w4 ⟨rfl, b4⟩
 have H4 := hide b4
 clear b4
 go_wp2_with fail
 exact ⟨rfl, rfl, Qa H4⟩
theorem Qea {rb e : Nat} {w : World} {l : List Tok} {it dp : Nat} (h : Rd rb e w l it (dp + 1)) (hd : dp < 32) :
  Calls Tryz.prog 160 #[.pointer (some ⟨rb, 0, none⟩)] w fun en w' => en = .returned (.tuple #[]) ∧ Rd rb e w' l it dp ∧ Kp rb w w' := by
 obtain ⟨v, hbx, hT⟩ := h.box
 have c3 : w.cell? ⟨rb, 3, none⟩ = some (.int .i64 ((dp : Int) + 1)) := by rw [Qad hbx, Int.natCast_add]; rfl
 have f3 : w.frozen? ⟨rb, 3, none⟩ = false := by simp [World.frozen?, hbx]
 have HF : Hid (Rd rb e (w.setCell ⟨rb, 3, none⟩ (.int .i64 (dp : Int))) l it dp) := ⟨⟨v, Qae hbx 3 (.int .i64 (dp : Int)), hT.kp (Kp.set rb w 3 _)⟩, h.num, h.len, h.end_⟩
 clear h hbx hT
 go_enter Tryz.func160, Tryz.ntmps160
 go_wp2_with fail
 go_end0
 exact ⟨rfl, by simpa using Qa HF, Kp.set rb w 3 _⟩
end
section
open Go.RowKit
def SgAt (rb : Nat) (w : World) (v : Value) (ss : List Txt) : Prop := ∃ b off c, v = .slice (some ⟨b, off, none⟩) ss.length c ∧ b ≠ rb ∧ b < w.heap.size ∧ ∀ j x, ss[j]? = some x → w.cell? ⟨b, off + j, none⟩ = some (str x)
theorem SgAt.kp {rb : Nat} {w w' : World} {v : Value} {ss : List Txt} (h : SgAt rb w v ss) (k : Kp rb w w') : SgAt rb w' v ss := by
 obtain ⟨b, off, c, h1, h2, h3, h4⟩ := h
 refine ⟨b, off, c, h1, h2, by have := k.size; omega, fun j x hx => ?_⟩
 have := h4 j x hx
 simp only [World.cell?] at this ⊢
 rw [k.block b h3 h2]; exact this
theorem Qfu {rb : Nat} {w : World} {v : Value} {ss : List Txt} (h : SgAt rb w v ss) (hl : ss.length ≤ 100) (g : Txt) :
  Calls Tryz.prog 179 #[v, str g] w fun en w' => en = .returned (.bool (decide (g ∈ ss))) ∧ w' = w := by
 obtain ⟨b, off, c, rfl, h2, h3, h4⟩ := h
 have := Tryz.slices_Contains_string b off ss.length c (ss.map fun x => (⟨x.toArray⟩ : ByteArray)) ⟨g.toArray⟩ w (by simp) (by omega) (fun j hj => by
  have hj' : j < ss.length := by simpa using hj
  rw [List.getD_eq_getElem?_getD, List.getElem?_map, List.getElem?_eq_getElem hj']
  exact h4 j _ (List.getElem?_eq_getElem hj'))
 refine this.mono ?_
 rintro en w' ⟨rfl, rfl⟩
 refine ⟨?_, rfl⟩
 congr 2
 rw [Bool.eq_iff_iff, Lib.containsS_iff, decide_eq_true_eq, List.take_of_length_le (by simp), List.mem_map]
 constructor
 · rintro ⟨x, hx, e⟩; rw [Qrr.1 e] at hx; exact hx
 · exact fun hx => ⟨g, hx, rfl⟩

theorem Qhd {rb e : Nat} {w : World} {l : List Tok} {it dp : Nat} (h : Rd rb e w l it dp) (v : Value) (ss : List Txt) (hs : SgAt rb w v ss) (hl : ss.length ≤ 100) (hne : [] ∉ ss) :
  Calls Tryz.prog 149 #[.pointer (some ⟨rb, 0, none⟩), v] w fun en w' => Ans rb e dp w (fun _ v x => v = str x) (choose e ss l it) en w' := by
 have hg := Qge h
 have HC : Hid (∀ u, Below w.heap.size w u → Calls Tryz.prog 179 #[v, str (sgn e l)] u fun en w' => en = .returned (.bool (decide (sgn e l ∈ ss))) ∧ w' = u) := fun u hu => Qfu (hs.kp (Kp.of_below hu)) hl _
 obtain ⟨b, off, c, ev, _⟩ := id hs
 subst ev
 by_cases hS : sgn e l ∈ ss
 ·
  have E : choose e ss l it = .ok (ahd e 0 l).text (l.drop 1) it := if_pos hS
  rw [E]
  obtain ⟨t, l', rfl, hq⟩ := Qfb (s := sgn e l) rfl (fun e => hne (e ▸ hS))
  clear hq
  have HT : Hid (∀ v, Below w.heap.size w v → Calls Tryz.prog 147 #[.pointer (some ⟨rb, 0, none⟩)] v fun en w' => en = .returned (.agg #[.int .i64 t.kind, str t.text, .int .i64 t.num, .int .i64 (t.at_ : Int)]) ∧ Rd rb e w' l' it dp ∧ Kp rb v w') := fun v hv => Qdf (h.later hv)
  have e0 : ahd e 0 (t :: l') = t := rfl
  rw [e0]
  rw [decide_eq_true hS] at HC
  generalize sgn e (t :: l') = g at hg HC
  clear h E e0 hS hs
  go_enter Tryz.func149, Tryz.ntmps149
  go_wp2_with fail
  refine hg.mono ?_
  clear hg
  rintro en w2 ⟨rfl, b2⟩
  have hc := Qa HC w2 b2
  have ht := Qa HT w2 b2
  have B2 := hide b2
  clear b2 HC HT
  go_wp2_with fail
  refine hc.mono ?_
  clear hc
  rintro en w3 ⟨rfl, hw3⟩
  subst hw3
  go_wp2_with fail
  refine ht.mono ?_
  clear ht
  rintro en w4 ⟨rfl, hR4, k4⟩
  have H4 := hide (Ya hR4 ((Kp.of_below (Qa B2)).trans k4))
  clear hR4 k4
  go_wp2_with fail
  rename_i hK
  refine hK _ _ ?_
  clear hK
  go_wp2_with fail
  go_ret
  exact ⟨_, rfl, rfl, Qa H4⟩
 have E : choose e ss l it = .bad 10 (ahd e 0 l).at_ l := if_neg hS
 rw [E]
 have HR : Hid (∀ v, Below w.heap.size w v → Calls Tryz.prog 129 #[.pointer (some ⟨rb, 0, none⟩), .int .i64 10] v fun en w' => en = .panicked [{ v := stopV 10 (ahd e 0 l).at_, recovered := false }] ∧ Below v.heap.size v w') := fun v hv => Qcm (h.later hv) 10
 rw [decide_eq_false hS] at HC
 generalize (ahd e 0 l).at_ = at0 at HR
 generalize sgn e l = g at hg HC
 clear h E hS hs
 go_enter Tryz.func149, Tryz.ntmps149
 go_wp2_with fail
 refine hg.mono ?_
 clear hg
 rintro en w2 ⟨rfl, b2⟩
 have hc := Qa HC w2 b2
 have hr := Qa HR w2 b2
 have B2 := hide b2
 clear b2 HC HR
 go_wp2_with fail
 refine hc.mono ?_
 clear hc
 rintro en w3 ⟨rfl, hw3⟩
 subst hw3
 go_wp2_with fail
 refine hr.mono ?_
 clear hr
 rintro en w4 ⟨rfl, b4⟩
 have H4 := hide ((Qa B2).trans (b4.mono (Qa B2).size))
 clear b4
 go_wp2_with fail
 exact ⟨rfl, rfl, Kp.of_below (Qa H4)⟩

theorem Qft {rb e : Nat} {w : World} {l : List Tok} {it dp : Nat} (h : Rd rb e w l it dp) :
  Calls Tryz.prog 155 #[.pointer (some ⟨rb, 0, none⟩)] w fun en w' => en = .returned (.bool (callN e l)) ∧ Below w.heap.size w w' := by
 have h1 := Qbc h 1
 unfold tokV at h1
 have H0 : Hid (∀ v, Below w.heap.size w v → Calls Tryz.prog 104 #[.pointer (some ⟨rb, 0, none⟩), .int .i64 0] v fun en w' => en = .returned (.agg #[.int .i64 (ahd e 0 l).kind, str (ahd e 0 l).text, .int .i64 (ahd e 0 l).num, .int .i64 ((ahd e 0 l).at_ : Int)]) ∧ Below v.heap.size v w') := fun v hv => Qbc (h.later hv) 0
 have hA := hide (show callN e l = (decide ((ahd e 0 l).kind = 1) && decide ((ahd e 1 l).kind = 4) && decide ((ahd e 1 l).text = [40])) from rfl)
 clear h
 generalize ahd e 0 l = s at H0 hA
 generalize ahd e 1 l = t at h1 hA
 have k1 : (s.kind == 1) = decide (s.kind = 1) := rfl
 have k2 : (t.kind == 4) = decide (t.kind = 4) := rfl
 go_enter Tryz.func155, Tryz.ntmps155
 go_wp2_with fail
 refine h1.mono ?_
 clear h1
 rintro en w2 ⟨rfl, b2⟩
 obtain ⟨w3, hw3⟩ : ∃ w3, w3 = w2.alloc (.cells #[.int .i64 t.kind, str t.text, .int .i64 t.num, .int .i64 (t.at_ : Int)] 49) := ⟨_, rfl⟩
 have b3 : Below w.heap.size w w3 := by rw [hw3]; exact b2.alloc b2.size _
 have n3 : w3.heap[w2.heap.size]? = some (.cells #[.int .i64 t.kind, str t.text, .int .i64 t.num, .int .i64 (t.at_ : Int)] 49 (0, 0)) := by rw [hw3]; exact heap_alloc_new w2 _
 have h0 := Qa H0 w3 b3
 have N3 := hide (Ya b3 n3)
 have HW3 := hide hw3
 clear b2 b3 n3 H0 hw3
 go_wp2_with fail
 rw [← Qa HW3]
 refine h0.mono ?_
 clear h0
 rintro en w4 ⟨rfl, b4⟩
 have n4 : w4.heap[w2.heap.size]? = some (.cells #[.int .i64 t.kind, str t.text, .int .i64 t.num, .int .i64 (t.at_ : Int)] 49 (0, 0)) := (b4.block _ (Qag (Qa N3).2)).trans (Qa N3).2
 have c0 := (Qad n4 0).trans (show _ = some (.int .i64 t.kind) from rfl)
 have c1 := (Qad n4 1).trans (show _ = some (str t.text) from rfl)
 have B4 := hide ((Qa N3).1.trans (b4.mono (Qa N3).1.size))
 clear b4 n4
 go_wp2_with fail
 rename_i hK
 refine hK _ _ ?_
 clear hK
 by_cases e1 : s.kind = 1
 ·
  have q1 : (s.kind == 1) = true := by simpa using e1
  by_cases e2 : t.kind = 4
  ·
   have q2 : (t.kind == 4) = true := by simpa using e2
   have HK := hide (Ya e1 e2)
   clear e1 e2 k1 k2
   go_wp2_with fail
   go_ret
   refine ⟨?_, Qa B4⟩
   rw [Qa hA, decide_eq_true (Qa HK).1, decide_eq_true (Qa HK).2, Bool.true_and, Bool.true_and]
   show Ending.returned (.bool (t.text == [40])) = _
   congr 2
   rw [Bool.eq_iff_iff]; simp
  have q2 : (t.kind == 4) = false := by simpa using e2
  have HK := hide (Ya e1 e2)
  clear e1 e2 k1 k2
  go_wp2_with fail
  go_ret
  exact ⟨by rw [Qa hA, decide_eq_true (Qa HK).1, decide_eq_false (Qa HK).2]; rfl, Qa B4⟩
 have q1 : (s.kind == 1) = false := by simpa using e1
 have HK := hide e1
 clear e1 k1 k2
 go_wp2_with fail
 go_ret
 exact ⟨by rw [Qa hA, decide_eq_false (Qa HK)]; rfl, Qa B4⟩
end
section
/-- What is left is no longer than what was there. -/
def Shr {α : Type} (p : Pr α) : Prop := ∀ l i x l' i', p l i = .ok x l' i' → l'.length ≤ l.length
theorem Qam {α β : Type} {r : Rs α} {f : α → Pr β} {x : β} {l : List Tok} {i : Nat} (h : r.bind f = .ok x l i) : ∃ a l1 i1, r = .ok a l1 i1 ∧ f a l1 i1 = .ok x l i := by
 cases r with
 | bad w a l => cases h
 | ok a l1 i1 => exact ⟨a, l1, i1, rfl, h⟩
theorem Qav {α β : Type} {r : Rs α} {f : α → β} {x : β} {l : List Tok} {i : Nat} (h : r.map f = .ok x l i) : ∃ a, r = .ok a l i ∧ f a = x := by
 cases r with
 | bad w a l => cases h
 | ok a l1 i1 =>
  simp only [Rs.map, Rs.ok.injEq] at h
  obtain ⟨h1, rfl, rfl⟩ := h
  exact ⟨a, rfl, h1⟩
theorem Qca (l : List Tok) : (l.drop 1).length ≤ l.length := by simp
section
variable {e : Nat}
theorem Qct (s : Txt) : Shr (want e s) := fun l i x l' i' h => by
 unfold want at h
 split at h
 · cases h; exact Qca l
 · cases h
theorem Qfn (ss : List Txt) : Shr (choose e ss) := fun l i x l' i' h => by
 unfold choose at h
 split at h
 · cases h; exact Qca l
 · cases h
theorem Qk : Shr (nmQ e) := fun l i x l' i' h => by
 unfold nmQ at h
 split at h
 · cases h; exact Qca l
 · cases h
theorem Qgd : Shr (wordQ e) := fun l i x l' i' h => by
 unfold wordQ at h
 split at h
 · cases h; exact Qca l
 · cases h
theorem Qhk {α : Type} (why : Int) : Shr (refuse (α := α) e why) := fun l i x l' i' h => by cases h
theorem Qjz {α : Type} {sep : Txt} {most : Nat} {p : Pr α} (hp : Shr p) : ∀ f acc, Shr (listL e sep most p f acc)
 | 0, acc, l, i, x, l', i', h => by cases h; exact Nat.le_refl _
 | f + 1, acc, l, i, x, l', i', h => by
  unfold listL at h
  split at h
  · cases h
  obtain ⟨a, l1, i1, h1, h2⟩ := Qam h
  have g1 := hp _ _ _ _ _ h1
  split at h2
  ·
   have := Qjz hp f _ _ _ _ _ _ h2
   have := Qca l1
   omega
  · cases h2; exact g1
theorem Qgc {α : Type} {sep : Txt} {most : Nat} {p : Pr α} (hp : Shr p) : Shr (listP e sep most p) := fun _ _ _ _ _ h => Qjz hp _ _ _ _ _ _ _ h
theorem Qfc {α : Type} {op cl : Txt} {p : Pr α} (hp : Shr p) : Shr (encl e op cl p) := fun l i x l' i' h => by
 unfold encl at h
 obtain ⟨a, l1, i1, h1, h2⟩ := Qam h
 have g1 := Qct _ _ _ _ _ _ h1
 split at h2
 ·
  cases h2
  have := Qca l1
  omega
 obtain ⟨b, l2, i2, h3, h4⟩ := Qam h2
 have g2 := Qgc hp _ _ _ _ _ h3
 obtain ⟨c, h5, _⟩ := Qav h4
 have g3 := Qct _ _ _ _ _ _ h5
 omega
theorem Qjy {p : Pr Ex} {ss : List Txt} (hp : Shr p) : ∀ f x, Shr (joinL e p ss f x)
 | 0, x, l, i, y, l', i', h => by cases h; exact Nat.le_refl _
 | f + 1, x, l, i, y, l', i', h => by
  unfold joinL at h
  split at h
  ·
   obtain ⟨a, l1, i1, h1, h2⟩ := Qam h
   have g1 := hp _ _ _ _ _ h1
   have g2 := Qjy hp f _ _ _ _ _ _ h2
   have := Qca l
   omega
  · cases h; exact Nat.le_refl _
theorem Qfo {p : Pr Ex} {ss : List Txt} (hp : Shr p) : Shr (joined e p ss) := fun l i x l' i' h => by
 unfold joined at h
 obtain ⟨a, l1, i1, h1, h2⟩ := Qam h
 have g1 := hp _ _ _ _ _ h1
 have g2 := Qjy hp _ _ _ _ _ _ _ h2
 omega
theorem Qn {E F : Pr Ex} (hE : Shr E) (hF : Shr F) : Shr (signed e E F) := fun l i x l' i' h => by
 unfold signed at h
 obtain ⟨a, l1, i1, h1, h2⟩ := Qam h
 have g1 := Qfn _ _ _ _ _ _ h1
 split at h2
 ·
  obtain ⟨b, h3, _⟩ := Qav h2
  have := hF _ _ _ _ _ h3
  omega
 split at h2
 ·
  obtain ⟨b, l2, i2, h3, h4⟩ := Qam h2
  obtain ⟨c, h5, _⟩ := Qav h4
  have g2 := hE _ _ _ _ _ h3
  have g3 := Qct _ _ _ _ _ _ h5
  omega
 obtain ⟨b, l2, i2, h3, h4⟩ := Qam h2
 obtain ⟨c, h5, _⟩ := Qav h4
 have g2 := Qgd _ _ _ _ _ h3
 have g3 := Qfc hE _ _ _ _ _ h5
 omega
theorem Qmz {E F : Pr Ex} (hE : Shr E) (hF : Shr F) : Shr (factorB e E F) := fun l i x l' i' h => by
 unfold factorB at h
 split at h
 · cases h; exact Qca l
 split at h
 · cases h; exact Qca l
 split at h
 ·
  split at h
  · cases h; exact Qca l
  obtain ⟨b, h3, _⟩ := Qav h
  exact Qgd _ _ _ _ _ h3
 · exact Qn hE hF _ _ _ _ _ h
theorem Qee : ∀ d, Shr (exD e d).1 ∧ Shr (exD e d).2
 | 0 => ⟨Qhk 4, Qhk 4⟩
 | d + 1 => ⟨Qfo (Qfo (Qee d).2), Qmz (Qee d).1 (Qee d).2⟩
theorem Qme (d : Nat) : Shr (atomP e d) := fun l i x l' i' h => by
 unfold atomP at h
 obtain ⟨a, l1, i1, h1, h2⟩ := Qam h
 obtain ⟨b, h3, _⟩ := Qav h2
 have g1 := Qk _ _ _ _ _ h1
 have g2 := Qfc (Qee d).1 _ _ _ _ _ h3
 omega
theorem Qqt (d : Nat) : Shr (litP e d) := fun l i x l' i' h => by
 unfold litP at h
 split at h
 ·
  obtain ⟨b, h3, _⟩ := Qav h
  have := Qme d _ _ _ _ _ h3
  have := Qca l
  omega
 split at h
 ·
  obtain ⟨b, h3, _⟩ := Qav h
  exact Qme d _ _ _ _ _ h3
 obtain ⟨a, l1, i1, h1, h2⟩ := Qam h
 obtain ⟨b, l2, i2, h3, h4⟩ := Qam h2
 obtain ⟨c, h5, _⟩ := Qav h4
 have g1 := (Qee d).1 _ _ _ _ _ h1
 have g2 := Qfn _ _ _ _ _ _ h3
 have g3 := (Qee d).1 _ _ _ _ _ h5
 omega
theorem Qjx : Shr (fieldP e) := fun l i x l' i' h => by
 unfold fieldP at h
 obtain ⟨a, l1, i1, h1, h2⟩ := Qam h
 obtain ⟨b, l2, i2, h3, h4⟩ := Qam h2
 obtain ⟨c, h5, _⟩ := Qav h4
 have g1 := Qgd _ _ _ _ _ h1
 have g2 := Qct _ _ _ _ _ _ h3
 have g3 := Qk _ _ _ _ _ h5
 omega
theorem Qsn : Shr (ctorP e) := fun l i x l' i' h => by
 unfold ctorP at h
 obtain ⟨a, l1, i1, h1, h2⟩ := Qam h
 obtain ⟨b, h3, _⟩ := Qav h2
 have g1 := Qgd _ _ _ _ _ h1
 have g2 := Qfc Qjx _ _ _ _ _ h3
 omega
end
end
section
open Go.RowKit
theorem Rd.ne {rb e : Nat} {w : World} {l : List Tok} {it dp : Nat} (h : Rd rb e w l it dp) {k : Nat} (hk : w.heap.size ≤ k) : k ≠ rb := by have := h.lt; omega
theorem Kp.keep {rb : Nat} {w w' : World} {k : Nat} {o : Obj} (h : Kp rb w w') (hk : w.heap[k]? = some o) (hn : k ≠ rb) : w'.heap[k]? = some o := (h.block k (Qag hk) hn).trans hk
theorem Kp.set2 {rb : Nat} {w w' : World} {k i : Nat} {v : Value} (h : Kp rb w w') (hk : w.heap.size ≤ k) : Kp rb w (w'.setCell ⟨k, i, none⟩ v) := by
 have hb := (Below.refl 0 w').setCell (p := ⟨k, i, none⟩) (Nat.zero_le _) v
 exact ⟨hb.os.trans h.os, hb.tape.trans h.tape, hb.output.trans h.output, Nat.le_trans h.size hb.size, fun j hj hn => (hpS (by show j ≠ k; omega)).trans (h.block j hj hn)⟩
theorem Rd.set2 {rb e : Nat} {w : World} {l : List Tok} {it dp : Nat} (h : Rd rb e w l it dp) {k i : Nat} {v : Value} (hk : rb < k) : Rd rb e (w.setCell ⟨k, i, none⟩ v) l it dp := by
 obtain ⟨u, h1, a, cap, h2, h3, h4, h5⟩ := h.box
 refine ⟨⟨u, (hpS (by show rb ≠ k; omega)).trans h1, a, cap, h2, h3, h4, fun j t hj => ?_⟩, h.num, h.len, h.end_⟩
 obtain ⟨b, o, e1, e2, e3⟩ := h5 j t hj
 exact ⟨b, o, e1, e2, e3.same (hpS (by show b ≠ k; omega))⟩
end
section
open Go.RowKit Go.Maps
theorem Qas {P : Program} (w : World) {ops : Array Oper} {rest : List Oper} {o : Oper} {a : Act} {Q : Exit → Act → World → Prop}
  (hg : o.guard = none) (s x : Operand) (t : TypeId) (hop : o.op = Op.call { callee := Callee.builtin Builtin.append, args := #[s, x], argTypes := #[t, t] })
  (v u : Value) (hs : a.eval s = v) (hx : a.eval x = u) (v' : Value) (w' : World) (hrun : (Builtin.append_ #[t, t] o.type #[v, u]).run P w = .ok v' w')
  (hK : wpList P ops Q rest (a.put o.dst v') w') : wpList P ops Q (o :: rest) a w := by
 refine wpList_plain hg fun K hK' => ?_
 unfold Oper.wp
 simp [execOp, hop, resolve, invoke, builtin, hs, hx, hrun, Result.andThen]
 exact hK' _ _ hK

abbrev PS (α : Type) := (Nat → Prop) → World → List Value → α → Prop
structure PSok {α : Type} (p : PS α) : Prop where
 mono : ∀ S S' w cs x, p S w cs x → (∀ b, b < w.heap.size → S b → S' b) → p S' w cs x
 same : ∀ S w w' cs x, p S w cs x → w.heap.size ≤ w'.heap.size → (∀ b, S b → b < w.heap.size → w'.heap[b]? = w.heap[b]?) → p S w' cs x
def All {α : Type} (p : PS α) (k : Nat) (S : Nat → Prop) (w : World) (css : List (List Value)) (xs : List α) : Prop := css.length = xs.length ∧ ∀ (j : Nat) (x : α) (cs : List Value), xs[j]? = some x → css[j]? = some cs → cs.length = k ∧ p S w cs x
def LsAt {α : Type} (p : PS α) (k : Nat) (S : Nat → Prop) (w : World) (v : Value) (xs : List α) : Prop := ∃ a cap css, v = .slice a xs.length cap ∧ xs.length ≤ cap ∧ cap ≤ maxLen ∧ All p k S w css xs ∧ (xs ≠ [] → ∃ b, a = some ⟨b, 0, none⟩ ∧ S b ∧ b < w.heap.size ∧ ∀ j c, css.flatten[j]? = some c → w.cell? ⟨b, j, none⟩ = some c)
section
variable {α : Type} {p : PS α} {k : Nat}
theorem All.mono (hp : PSok p) {S S' : Nat → Prop} {w : World} {css : List (List Value)} {xs : List α} (h : All p k S w css xs) (hS : ∀ b, b < w.heap.size → S b → S' b) : All p k S' w css xs :=
 ⟨h.1, fun j x cs h1 h2 => ⟨(h.2 j x cs h1 h2).1, hp.mono _ _ _ _ _ (h.2 j x cs h1 h2).2 hS⟩⟩
theorem All.same (hp : PSok p) {S : Nat → Prop} {w w' : World} {css : List (List Value)} {xs : List α} (h : All p k S w css xs) (hs : w.heap.size ≤ w'.heap.size) (hb : ∀ b, S b → b < w.heap.size → w'.heap[b]? = w.heap[b]?) : All p k S w' css xs :=
 ⟨h.1, fun j x cs h1 h2 => ⟨(h.2 j x cs h1 h2).1, hp.same _ _ _ _ _ (h.2 j x cs h1 h2).2 hs hb⟩⟩
theorem All.snoc {S : Nat → Prop} {w : World} {css : List (List Value)} {xs : List α} {cs : List Value} {x : α} (h : All p k S w css xs) (hl : cs.length = k) (hx : p S w cs x) : All p k S w (css ++ [cs]) (xs ++ [x]) := by
 refine ⟨by simp [h.1], fun j y c h1 h2 => ?_⟩
 by_cases hj : j < xs.length
 ·
  rw [List.getElem?_append_left hj] at h1
  rw [List.getElem?_append_left (by rw [h.1]; exact hj)] at h2
  exact h.2 j y c h1 h2
 rw [List.getElem?_append_right (by omega)] at h1
 rw [List.getElem?_append_right (by rw [h.1]; omega), h.1] at h2
 have hz : j - xs.length = 0 := by
  have := (List.getElem?_eq_some_iff.1 h1).1
  simp at this
  omega
 rw [hz] at h1 h2
 simp at h1 h2
 subst h1 h2
 exact ⟨hl, hx⟩
theorem LsAt.mono (hp : PSok p) {S S' : Nat → Prop} {w : World} {v : Value} {xs : List α} (h : LsAt p k S w v xs) (hS : ∀ b, b < w.heap.size → S b → S' b) : LsAt p k S' w v xs := by
 obtain ⟨a, cap, css, h1, h2, h3, h4, h5⟩ := h
 refine ⟨a, cap, css, h1, h2, h3, h4.mono hp hS, fun hn => ?_⟩
 obtain ⟨b, e1, e2, e3, e4⟩ := h5 hn
 exact ⟨b, e1, hS b e3 e2, e3, e4⟩
theorem LsAt.same (hp : PSok p) {S : Nat → Prop} {w w' : World} {v : Value} {xs : List α} (h : LsAt p k S w v xs) (hs : w.heap.size ≤ w'.heap.size) (hb : ∀ b, S b → b < w.heap.size → w'.heap[b]? = w.heap[b]?) : LsAt p k S w' v xs := by
 obtain ⟨a, cap, css, h1, h2, h3, h4, h5⟩ := h
 refine ⟨a, cap, css, h1, h2, h3, h4.same hp hs hb, fun hn => ?_⟩
 obtain ⟨b, e1, e2, e3, e4⟩ := h5 hn
 refine ⟨b, e1, e2, by omega, fun j c hj => ?_⟩
 have := e4 j c hj
 simp only [World.cell?] at this ⊢
 rw [hb b e2 e3]; exact this
theorem LsAt.nil (S : Nat → Prop) (w : World) : LsAt p k S w (.slice none 0 0) [] := ⟨none, 0, [], rfl, Nat.le_refl _, Nat.zero_le _, ⟨rfl, fun j x cs h => by simp at h⟩, fun h => absurd rfl h⟩
theorem LsAt.of {base : Nat} {T : TypeId} {w : World} {v : Value} {css : List (List Value)} {xs : List α} (ho : w.ownsRow base T k v xs.length css.flatten) (ha : All p k (fun b => base ≤ b) w css xs) : LsAt p k (fun b => base ≤ b) w v xs := by
 rcases id ho.2 with ⟨e, e2⟩ | ⟨g, cap, cur, e, hb, hg, hn, hm, _⟩
 ·
  have hx : xs = [] := List.length_eq_zero_iff.1 e2
  subst hx
  rw [e]
  exact LsAt.nil _ _
 refine ⟨some ⟨g, 0, none⟩, cap, css, e, hn, hm, ha, fun _ => ⟨g, rfl, hb, Qag hg, fun j c hj => ?_⟩⟩
 subst e
 have hl : j < xs.length * k := by rw [← ho.1]; exact (List.getElem?_eq_some_iff.1 hj).1
 rw [World.ownsRow.cellAt ho j hl]; exact hj
structure LI (p : PS α) (k : Nat) (T : TypeId) (rb e dp : Nat) (sep : Txt) (most : Nat) (part : Pr α) (r0 : Rs (List α)) (w : World) (sl : Value) (wr : World) (acc : List α) (l : List Tok) (it f : Nat) : Prop where
 kp : Kp rb w wr
 rd : Rd rb e wr l it dp
 own : ∃ css, wr.ownsRow w.heap.size T k sl acc.length css.flatten ∧ All p k (fun b => w.heap.size ≤ b ∧ some b ≠ sl.ownBlock) wr css acc
 eq : r0 = listL e sep most part f acc l it
 fuel : l.length + 1 ≤ f
 few : acc.length + l.length ≤ 65536
def left (rb : Nat) (w : World) : Nat := match w.cell? ⟨rb, 0, none⟩ with | some (.slice _ n _) => n | _ => 0
theorem Qdt {rb e : Nat} {w : World} {l : List Tok} {it dp : Nat} (h : Rd rb e w l it dp) : left rb w = l.length := by
 obtain ⟨a, cap, c0, _⟩ := h.cells
 unfold left
 rw [c0]
theorem LI.more (hp : PSok p) {T ST : TypeId} {i0 : TypeInfo} {z : Value} {by_ : Nat} (ht : Tryz.prog.underlying ST = some (.slice T)) (hi : Tryz.prog.info? T = some i0) (hz : i0.zero = some z) (hsz : i0.size = k) (hby : i0.bytes = by_) (hzc : z.cells.size = k) (hk : 0 < k) (hb6 : by_ ≤ 1000)
  {rb e dp : Nat} {sep : Txt} {most : Nat} {part : Pr α} {r0 : Rs (List α)} {w wr w2 : World} {sl : Value} {acc : List α} {l l2 : List Tok} {it i2 f : Nat} (h : LI p k T rb e dp sep most part r0 w sl wr acc l it f) {x : α} {cs : List Value}
  (hl : cs.length = k) (h1 : ∀ c ∈ cs, c.oneCell' = true) (hx : p (fun b => wr.heap.size ≤ b) w2 cs x) (hR : Rd rb e w2 l2 i2 dp) (k2 : Kp rb wr w2) (hrb : rb < w.heap.size) :
  ∃ r w8, (Builtin.append_ #[ST, ST] ST #[sl, .slice (some ⟨w2.heap.size, 0, none⟩) 1 1]).run Tryz.prog (w2.alloc (.cells cs.toArray T)) = .ok r w8 ∧ Kp rb w w8 ∧ Rd rb e w8 l2 i2 dp ∧ (∃ a c, r = .slice a (acc.length + 1) c) ∧
   ∃ css, w8.ownsRow w.heap.size T k r (acc ++ [x]).length css.flatten ∧ All p k (fun b => w.heap.size ≤ b ∧ some b ≠ r.ownBlock) w8 css (acc ++ [x]) := by
 obtain ⟨css, ho, ha⟩ := h.own
 have hs0 := h.kp.size
 have hs2 := k2.size
 have hown : ∀ b, some b = sl.ownBlock → w.heap.size ≤ b ∧ b < wr.heap.size := fun b e => World.ownsRow.lt ho b e.symm
 have ho2 : (w2.alloc (.cells cs.toArray T)).ownsRow w.heap.size T k sl acc.length css.flatten := by
  refine World.ownsRow.alloc ?_ _
  refine ⟨ho.1, ?_⟩
  rcases ho.2 with e | ⟨g, cap, cur, e1, e2, e3, e4⟩
  · exact .inl e
  · exact .inr ⟨g, cap, cur, e1, e2, k2.keep e3 (by omega), e4⟩
 have hf := h.few
 obtain ⟨r, w8, hr, o8, g8, _, a8⟩ := run_append_own_at (P := Tryz.prog) (w2.alloc (.cells cs.toArray T)) w.heap.size ST ST T i0 z k by_ ht hi hz hsz hby hzc hk sl acc.length css.flatten ho2 ⟨w2.heap.size, 0, none⟩ 1 1 cs (by rw [hl, Nat.one_mul]) (fun j u hj => by
  have e1 : (⟨w2.heap.size, 0, none⟩ : Addr).add j = ⟨w2.heap.size, j, none⟩ := by cases j <;> simp [Addr.add]
  rw [e1, Qad (heap_alloc_new w2 _)]
  simpa using hj) h1 (by unfold maxLen; omega) (by
  have h3 : acc.length + 1 ≤ 65537 := by omega
  have := Nat.mul_le_mul h3 hb6
  omega) (by simp; omega)
 have hz2 : (w2.alloc (.cells cs.toArray T)).heap.size = w2.heap.size + 1 := by simp
 have hs8 := g8.size
 have hsame : ∀ b, b < w2.heap.size → some b ≠ sl.ownBlock → w8.heap[b]? = w2.heap[b]? := fun b hb hn => by
  rw [g8.block b (by omega) hn, Below.heap_alloc _ _ _ hb]
 have kp8 : Kp rb w w8 := by
  have hb := (Below.refl w2.heap.size w2).alloc (Nat.le_refl _) (.cells cs.toArray T)
  refine ⟨g8.os.trans (hb.os.trans (k2.os.trans h.kp.os)), g8.tape.trans (hb.tape.trans (k2.tape.trans h.kp.tape)), g8.output.trans (hb.output.trans (k2.output.trans h.kp.output)), by omega, fun j hj hn => ?_⟩
  rw [hsame j (by omega) (fun e => by have := (hown j e).1; omega), k2.block j (by omega) hn]
  exact h.kp.block j hj hn
 have rd8 : Rd rb e w8 l2 i2 dp := by
  obtain ⟨v, q1, a, cap, q2, q3, q4, q5⟩ := hR.box
  have hrl := Qag q1
  refine ⟨⟨v, (hsame rb hrl (fun e => by have := (hown rb e).1; omega)).trans q1, a, cap, q2, q3, q4, fun j t hj => ?_⟩, hR.num, hR.len, hR.end_⟩
  obtain ⟨b, o, e1, e2, e3⟩ := q5 j t hj
  exact ⟨b, o, e1, e2, e3.same (hsame b e3.lt (fun e => by have := (hown b e).1; omega))⟩
 have hrn : ∀ b, some b = r.ownBlock → some b = sl.ownBlock ∨ w2.heap.size < b + 1 ∧ w2.heap.size + 1 ≤ b := fun b e => by
  rcases a8 with e2 | e2
  · exact .inl (e.trans e2)
  rw [e2] at e
  simp only [Option.some.injEq] at e
  exact .inr (by omega)
 have hrow : ∃ a c, r = .slice a (acc.length + 1) c := by
  rcases o8.2 with ⟨_, e⟩ | ⟨g, cap, cur, e, _⟩
  · omega
  · exact ⟨_, _, e⟩
 refine ⟨r, w8, hr, kp8, rd8, hrow, css ++ [cs], by rw [List.length_append]; simpa using o8, ?_⟩
 have hold : All p k (fun b => w.heap.size ≤ b ∧ some b ≠ r.ownBlock) w8 css acc := by
  have h2 : All p k (fun b => (w.heap.size ≤ b ∧ some b ≠ sl.ownBlock) ∧ b < wr.heap.size) w2 css acc := (ha.mono hp (fun b hb hs => ⟨hs, hb⟩)).same hp hs2 (fun b hs hb => k2.block b hb (by omega))
  have h3 := h2.same hp (w' := w8) (by omega) (fun b hs hb => hsame b hb hs.1.2)
  refine h3.mono hp (fun b _ hs => ⟨hs.1.1, fun e => ?_⟩)
  rcases hrn b e with e | e
  · exact hs.1.2 e
  · omega
 refine hold.snoc hl ?_
 have hx2 := hp.mono _ (fun b => wr.heap.size ≤ b ∧ b < w2.heap.size) _ _ _ hx (fun b hb hs => ⟨hs, hb⟩)
 have hx3 := hp.same _ _ w8 _ _ hx2 (by omega) (fun b hs hb => hsame b hb (fun e => by have := (hown b e).2; omega))
 refine hp.mono _ _ _ _ _ hx3 (fun b _ hs => ⟨by omega, fun e => ?_⟩)
 rcases hrn b e with e | e
 · have := (hown b e).2; omega
 · omega
end
end
section
open Go.RowKit Go.Maps
theorem infoE : ∃ i0 : TypeInfo, Tryz.prog.info? 88 = some i0 ∧ i0.zero = some (.agg #[.int .i64 0, .int .i64 0, .string ⟨#[]⟩, .slice none 0 0, .int .i64 0]) ∧ i0.size = 5 ∧ i0.bytes = 64 := by
 have h : (Tryz.prog.info? 88).map (fun i => (i.zero, i.size, i.bytes)) = some (some (.agg #[.int .i64 0, .int .i64 0, .string ⟨#[]⟩, .slice none 0 0, .int .i64 0]), 5, 64) := by kernel_rfl
 obtain ⟨i0, hi, hi3⟩ := Option.map_eq_some_iff.1 h
 simp only [Prod.mk.injEq] at hi3
 exact ⟨i0, hi, hi3⟩
def PartE (p : PS Ex) (rb e dp : Nat) (part : Pr Ex) : Prop := ∀ (w : World) (l : List Tok) (it : Nat), Rd rb e w l it dp → Calls Tryz.prog 182 #[.pointer (some ⟨rb, 0, none⟩)] w fun en w' => Ans rb e dp w (fun w2 v x => ∃ c0 c1 c2 c3 c4, v = .agg #[c0, c1, c2, c3, c4] ∧ (∀ c ∈ ([c0, c1, c2, c3, c4] : List Value), c.oneCell' = true) ∧ p (fun b => w.heap.size ≤ b) w2 [c0, c1, c2, c3, c4] x) (part l it) en w'

theorem Qp (p : PS Ex) (hp : PSok p) {rb e dp : Nat} {part : Pr Ex} (hpart : PartE p rb e dp part) (hshr : Shr part) {w : World} {l : List Tok} {it : Nat} (h : Rd rb e w l it dp) (sep : Txt) (hsep : sep ≠ []) (most : Nat) :
  Calls Tryz.prog 198 #[.pointer (some ⟨rb, 0, none⟩), str sep, .int .i64 (most : Int), .func (.func 182) #[.pointer (some ⟨rb, 0, none⟩)] #[]] w fun en w' => Ans rb e dp w (fun w2 v xs => LsAt p 5 (fun b => w.heap.size ≤ b) w2 v xs) (listP e sep most part l it) en w' := by
 obtain ⟨r0, hr0⟩ : ∃ r0, r0 = listP e sep most part l it := ⟨_, rfl⟩
 have hst : LI p 5 88 rb e dp sep most part r0 w (.slice none 0 0) w [] l it (l.length + 1) := ⟨Kp.refl rb w, h, ⟨[], World.ownsRow_nil _ _ _ _, ⟨rfl, fun j x cs hx => by simp at hx⟩⟩, hr0, Nat.le_refl _, by have := h.len; simpa using this⟩
 rw [← hr0]
 obtain ⟨PO, hPO⟩ : ∃ PO : Ending → World → Prop, PO = fun en w' => Ans rb e dp w (fun w2 v xs => LsAt p 5 (fun b => w.heap.size ≤ b) w2 v xs) r0 en w' := ⟨_, rfl⟩
 rw [← hPO]
 have HPO := hide hPO
 have HST := hide hst
 have HP := hide (Ya hpart (Ya hshr hp))
 have hrb := h.lt
 clear hst hr0 hPO hpart hshr h hp
 obtain ⟨i0, hi, hz, hsz, hby⟩ := infoE
 have HIN := hide (Ya hi (Ya hz (Ya hsz hby)))
 have ht : Tryz.prog.underlying 75 = some (.slice 88) := by kernel_rfl
 have HTY := hide ht
 clear hi hz hsz hby ht
 go_enter Tryz.func198, Tryz.ntmps198
 go_wp2_with fail
 go_loopw [9] (fun sl wr => ∃ acc l' it' f sa sc, sl = .slice sa (List.length acc) sc ∧ LI p 5 88 rb e dp sep most part r0 w sl wr acc l' it' f) (fun _ wr => left rb wr)
 case atStart => exact ⟨[], l, it, _, none, 0, rfl, Qa HST⟩
 obtain ⟨acc, l', it', f, sa, sc, rfl, hL⟩ := hrel
 clear HST
 obtain ⟨f', rfl⟩ : ∃ f', f = f' + 1 := ⟨f - 1, by have := hL.fuel; omega⟩
 by_cases hm : acc.length = most
 ·
  have hr := Qcm hL.rd 3
  have hE : r0 = .bad 3 (ahd e 0 l').at_ l' := by
   rw [hL.eq]
   unfold listL
   rw [if_pos hm]; rfl
  have HE := hide (Ya hE hL.kp)
  have hm2 : ((acc.length : Int) == (most : Int)) = true := by rw [hm]; simp
  clear hL hE hm
  generalize (ahd e 0 l').at_ = at0 at hr HE
  go_wp2_with fail
  refine hr.mono ?_
  clear hr
  rintro en w3 ⟨rfl, b3⟩
  have H3 := hide ((Qa HE).2.trans (Kp.of_below b3))
  clear b3
  go_wp2_with fail
  refine ⟨rfl, ?_⟩
  rw [Qa HPO, (Qa HE).1]
  exact ⟨rfl, Qa H3⟩
 have hm2 : ((acc.length : Int) == (most : Int)) = false := by simp; omega
 obtain ⟨hpart, hshr, hp⟩ := Qa HP
 have hc := hpart wr l' it' hL.rd
 have hE : r0 = (part l' it').bind fun x l i => if sgn e l = sep then listL e sep most part f' (acc ++ [x]) (l.drop 1) i else .ok (acc ++ [x]) l i := by
  rw [hL.eq]
  conv => lhs; unfold listL
  rw [if_neg hm]
 cases hq : part l' it' with
 | bad why at0 l2 =>
  rw [hq] at hc hE
  have HE := hide (Ya hE hL.kp)
  clear hL hE hm hpart hshr hp hq
  go_wp2_with fail
  refine hc.mono ?_
  clear hc
  rintro en w3 ⟨rfl, k3⟩
  have H3 := hide ((Qa HE).2.trans k3)
  clear k3
  go_wp2_with fail
  refine ⟨rfl, ?_⟩
  rw [Qa HPO, (Qa HE).1]
  exact ⟨rfl, Qa H3⟩
 | ok x l2 i2 =>
  have hle := hshr _ _ _ _ _ hq
  rw [hq] at hc hE
  have HE := hide (Ya hL hE)
  clear hL hE hm hpart hshr hp hq
  go_wp2_with fail
  refine hc.mono ?_
  clear hc
  rintro en w2 ⟨_, rfl, ⟨c0, c1, c2, c3, c4, rfl, h1, hx⟩, hR2, k2⟩
  obtain ⟨hL, hE⟩ := Qa HE
  obtain ⟨hi, hz, hsz, hby⟩ := Qa HIN
  obtain ⟨r, w8, hrun, kp8, rd8, ⟨ra, rc, er⟩, hown8⟩ := hL.more (Qa HP).2.2 (Qa HTY) hi hz hsz hby rfl (by decide) (by decide) (cs := [c0, c1, c2, c3, c4]) rfl h1 hx hR2 k2 hrb
  subst er
  have HRUN := hide hrun
  have hsk := Qde rd8 sep hsep
  have hfu := hL.fuel
  have hfw := hL.few
  have hlf := Qdt hL.rd
  have H8 := hide (Ya kp8 (Ya hown8 hE))
  clear hL hE hi hz hsz hby h1 hx hR2 k2 hrun kp8 rd8 hown8 HE
  go_wp2_with (at_builtin; refine Qas _ rfl _ _ 75 rfl _ _ rfl rfl _ _ (Qa HRUN) ?_; clear HRUN)
  refine hsk.mono ?_
  clear hsk
  rintro en w9 ⟨rfl, hR9, k9⟩
  obtain ⟨kp8, ⟨css, ho8, ha8⟩, hE⟩ := Qa H8
  have own9 : w9.ownsRow w.heap.size 88 5 (.slice ra (acc.length + 1) rc) (acc ++ [x]).length css.flatten := by
   refine ⟨ho8.1, ?_⟩
   rcases ho8.2 with q | ⟨g, cap, cur, e1, e2, e3, e4⟩
   · exact .inl q
   · exact .inr ⟨g, cap, cur, e1, e2, k9.keep e3 (by omega), e4⟩
  have all9 := ha8.same (Qa HP).2.2 k9.size (fun b hs hb => k9.block b hb (by omega))
  have kp9 := kp8.trans k9
  clear kp8 ho8 ha8 k9 H8
  by_cases hS : sgn e l2 = sep
  ·
   rw [if_pos hS] at hR9
   have hS2 : decide (sgn e l2 = sep) = true := decide_eq_true hS
   obtain ⟨t2, l3, e2, hq2⟩ := Qfb hS hsep
   clear hq2
   subst e2
   have hN : LI p 5 88 rb e dp sep most part r0 w (.slice ra (acc.length + 1) rc) w9 (acc ++ [x]) l3 i2 f' := ⟨kp9, hR9, ⟨css, own9, all9⟩, by rw [hE]; show (if sgn e (t2 :: l3) = sep then _ else _) = _; rw [if_pos hS]; rfl, by simp at hle; omega, by simp at hle ⊢; omega⟩
   have hl9 := Qdt hR9
   have HN := hide hN
   rw [hS2]
   have HL9 := hide (Ya hl9 (Ya hlf hle))
   clear hN hR9 own9 all9 kp9 hE hS hS2 hl9 hlf hle
   go_wp2_with fail
   go_roundw
   case rel => exact ⟨_, _, _, _, ra, rc, by simp, Qa HN⟩
   obtain ⟨q1, q2, q3⟩ := Qa HL9
   rw [q1, q2]
   simp at q3 ⊢
   omega
  rw [if_neg hS] at hR9
  have hS2 : decide (sgn e l2 = sep) = false := decide_eq_false hS
  have hF : r0 = .ok (acc ++ [x]) l2 i2 := by rw [hE]; show (if sgn e l2 = sep then _ else _) = _; rw [if_neg hS]
  have HF : Hid (r0 = .ok (acc ++ [x]) l2 i2 ∧ LsAt p 5 (fun b => w.heap.size ≤ b) w9 (.slice ra (acc.length + 1) rc) (acc ++ [x]) ∧ Rd rb e w9 l2 i2 dp ∧ Kp rb w w9) := ⟨hF, LsAt.of own9 (all9.mono (Qa HP).2.2 (fun b _ hs => hs.1)), hR9, kp9⟩
  rw [hS2]
  clear hF hR9 own9 all9 kp9 hE hS hS2 hlf hle
  go_wp2_with fail
  rw [Qa HPO, (Qa HF).1]
  exact ⟨_, rfl, (Qa HF).2⟩
end
end Go.Proofs.YtjebglmpopijhaaGreatDoor
