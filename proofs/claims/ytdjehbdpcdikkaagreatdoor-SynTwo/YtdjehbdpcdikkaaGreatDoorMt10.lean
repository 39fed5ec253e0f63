/- The library's contract on slices.Contains, laid at this program. syn's reader: words, calls, depth, choices. syn's reader: what stands behind a name; one of some signs. syn: a field. syn: lists of what was read, in memory. -/
import Derived.Shelf.Slices.Turned
import Derived.Test.YtdjehbdpcdikkaaGreatDoorProg
import Derived.Test.YtdjehbdpcdikkaaGreatDoorMt09
import Derived.Test.YtdjehbdpcdikkaaGreatDoorMt05
import Derived.Test.YtdjehbdpcdikkaaGreatDoorMt01
import Derived.Maps.AppendAt
namespace Go.Proofs
open Go.Shelf
def Tryz.lays110_ren : Go.Shelf.Ren := ⟨fun | 110 => 182 | 109 => 200 | n => n, fun | 31 => 41 | 9 => 9 | 4 => 4 | 3 => 3 | 0 => 0 | n => n, fun | n => n⟩
theorem Tryz.lays110 : Go.Proofs.Lays.n110 Tryz.prog Tryz.lays110_ren := {
  mixed := by kernel_rfl
  f109 := Tryz.func200.trans (congrArg some (by kernel_rfl))
  f110 := Tryz.func182.trans (congrArg some (by kernel_rfl))
  t0 := Tryz.underlying0
  a0 := Tryz.isAgg0
  z0 := Tryz.sizeOf0
  v0 := Tryz.zeroValue0
  t3 := Tryz.underlying3
  a3 := Tryz.isAgg3
  z3 := Tryz.sizeOf3
  v3 := Tryz.zeroValue3
  t4 := Tryz.underlying4
  a4 := Tryz.isAgg4
  z4 := Tryz.sizeOf4
  v4 := Tryz.zeroValue4
  t9 := Tryz.underlying9
  a9 := Tryz.isAgg9
  z9 := Tryz.sizeOf9
  v9 := Tryz.zeroValue9
  t31 := Tryz.underlying41
  a31 := Tryz.isAgg41
  z31 := Tryz.sizeOf41
  v31 := Tryz.zeroValue41 }
open Go.Lib in
theorem Tryz.slices_Contains_string (b off n c : Nat) (zs : List ByteArray) (x : ByteArray) (w : World) (hz : n ≤ zs.length) (hbig : n ≤ 9223372036854775807) (hc : ∀ j, j < zs.length → w.cell? ⟨b, off + j, none⟩ = some (.string (zs.getD j ByteArray.empty))) :
    Calls Tryz.prog 182 #[.slice (some ⟨b, off, none⟩) n c, .string x] w fun e w' => e = .returned (.bool (Lib.containsS (zs.take n) x)) ∧ w' = w := Any.slices_Contains_string Tryz.lays110 b off n c zs x w hz hbig hc
end Go.Proofs

namespace Go.Proofs.YtdjehbdpcdikkaaGreatDoor
open Go.RowKit

theorem idx_has : ∀ (l : Txt) (c : UInt8), decide (0 ≤ Lib.indexByte l c) = l.contains c
 | [], c => by simp [Lib.indexByte]
 | b :: l, c => by
  have ih := idx_has l c
  unfold Lib.indexByte
  by_cases e : b = c
  · subst e; simp
  ·
   have e1 : (b == c) = false := by simpa using e
   have e2 : (c == b) = false := by simpa using (fun h => e h.symm)
   rw [e1, List.contains_cons, e2, Bool.false_or, ← ih]
   simp only [Bool.false_eq_true, if_false]
   have hm := Lib.indexByte_ge l c
   by_cases h1 : Lib.indexByte l c = -1
   · rw [h1]; simp
   ·
    have : (Lib.indexByte l c == -1) = false := by simpa using h1
    rw [this]
    simp only [Bool.false_eq_true, if_false]
    rw [Bool.eq_iff_iff]; simp; omega

set_option maxRecDepth 100000 in
set_option maxHeartbeats 4000000 in
theorem isWord_any (t : Tok) (w : World) :
  Calls Tryz.prog 181 #[.agg #[.int .i64 t.kind, str t.text, .int .i64 t.num, .int .i64 (t.at_ : Int)]] w fun en w' => en = .returned (.bool (isW1 t)) ∧ Below w.heap.size w w' := by
 have hc : ∀ v, Calls Tryz.prog 199 #[.string ⟨t.text.toArray⟩, .string ⟨#[46]⟩] v fun e w' => e = .returned (.bool (t.text.contains 46)) ∧ w' = v := fun v => by
  rw [← idx_has]
  exact Tryz.strings_Contains_one ⟨t.text.toArray⟩ 46 v
 have HC := hide hc
 have hA := hide (show isW1 t = (decide (t.kind = 1) && decide (t.text ≠ [95]) && !t.text.contains 46) from rfl)
 clear hc
 by_cases h1 : t.kind = 1
 ·
  have k1 : (t.kind == 1) = true := by simpa using h1
  by_cases h2 : t.text = [95]
  ·
   have k2 : (t.text == [95]) = true := by simpa using h2
   have HK := hide (And.intro h1 h2)
   clear h1 h2 HC
   go_enter Tryz.func181, Tryz.ntmps181
   go_wp2_with fail
   go_ret
   exact ⟨by rw [unhide hA, decide_eq_true (unhide HK).1, (unhide HK).2]; rfl, (Below.refl _ w).alloc (Nat.le_refl _) _⟩
  ·
   have k2 : (t.text == [95]) = false := by simpa using h2
   have HK := hide (And.intro h1 h2)
   have hc := unhide HC (w.alloc (.cells #[.int .i64 t.kind, str t.text, .int .i64 t.num, .int .i64 (t.at_ : Int)] 43))
   clear h1 h2 HC
   generalize hq : t.text.contains 46 = q at hc
   have HQ := hide hq
   clear hq
   go_enter Tryz.func181, Tryz.ntmps181
   go_wp2_with fail
   refine hc.mono ?_
   clear hc
   rintro en w2 ⟨rfl, hw2⟩
   subst hw2
   go_wp2_with fail
   go_ret
   exact ⟨by rw [unhide hA, decide_eq_true (unhide HK).1, decide_eq_true (unhide HK).2, unhide HQ]; rfl, (Below.refl _ w).alloc (Nat.le_refl _) _⟩
 ·
  have k1 : (t.kind == 1) = false := by simpa using h1
  have HK := hide h1
  clear h1 HC
  go_enter Tryz.func181, Tryz.ntmps181
  go_wp2_with fail
  go_ret
  exact ⟨by rw [unhide hA, decide_eq_false (unhide HK)]; rfl, (Below.refl _ w).alloc (Nat.le_refl _) _⟩

set_option maxRecDepth 100000 in
set_option maxHeartbeats 4000000 in
theorem wordq_any {rb e : Nat} {w : World} {l : List Tok} {it dp : Nat} (h : Rd rb e w l it dp) :
  Calls Tryz.prog 151 #[.pointer (some ⟨rb, 0, none⟩)] w fun en w' => Ans rb e dp w (fun _ v x => v = str x) (wordQ e l it) en w' := by
 have ha := ahead_any h 0
 unfold tokV at ha
 have HW := hide (fun v => isWord_any (ahd e 0 l) v)
 cases hS : isW1 (ahd e 0 l) with
 | true =>
  have E : wordQ e l it = .ok (ahd e 0 l).text (l.drop 1) it := if_pos hS
  rw [E]
  have hk1 : (ahd e 0 l).kind = 1 := by
   unfold isW1 at hS
   simp only [Bool.and_eq_true, decide_eq_true_eq] at hS
   exact hS.1.1
  obtain ⟨t, l', rfl, hk⟩ := ahd_kind hk1 (by decide)
  have HT : Hid (∀ v, Below w.heap.size w v → Calls Tryz.prog 150 #[.pointer (some ⟨rb, 0, none⟩)] v fun en w' => en = .returned (.agg #[.int .i64 t.kind, str t.text, .int .i64 t.num, .int .i64 (t.at_ : Int)]) ∧ Rd rb e w' l' it dp ∧ Kp rb v w') := fun v hv => take_any (h.later hv)
  have e0 : ahd e 0 (t :: l') = t := rfl
  rw [e0] at ha HW hS
  rw [e0]
  clear h E hk e0 hk1
  go_enter Tryz.func151, Tryz.ntmps151
  go_wp2_with fail
  refine ha.mono ?_
  clear ha
  rintro en w2 ⟨rfl, b2⟩
  have hw := unhide HW w2
  rw [hS] at hw
  have B2 := hide b2
  clear b2 HW
  go_wp2_with fail
  refine hw.mono ?_
  clear hw
  rintro en w3 ⟨rfl, b3⟩
  have b3' := (unhide B2).trans (b3.mono (unhide B2).size)
  have ht := unhide HT w3 b3'
  have B3 := hide b3'
  clear b3 b3' HT
  go_wp2_with fail
  refine ht.mono ?_
  clear ht
  rintro en w4 ⟨rfl, hR4, k4⟩
  have H4 := hide (And.intro hR4 ((Kp.of_below (unhide B3)).trans k4))
  clear hR4 k4
  go_wp2_with fail
  rename_i hK
  refine hK _ _ ?_
  clear hK
  go_wp2_with fail
  go_ret
  exact ⟨_, rfl, rfl, unhide H4⟩
 | false =>
  have E : wordQ e l it = .bad 10 (ahd e 0 l).at_ l := if_neg (by rw [hS]; simp)
  rw [E]
  have HR : Hid (∀ v, Below w.heap.size w v → Calls Tryz.prog 132 #[.pointer (some ⟨rb, 0, none⟩), .int .i64 10] v fun en w' => en = .panicked [{ v := stopV 10 (ahd e 0 l).at_, recovered := false }] ∧ Below v.heap.size v w') := fun v hv => refuse_any (h.later hv) 10
  generalize ahd e 0 l = t at ha hS HR HW
  clear h E
  go_enter Tryz.func151, Tryz.ntmps151
  go_wp2_with fail
  refine ha.mono ?_
  clear ha
  rintro en w2 ⟨rfl, b2⟩
  have hw := unhide HW w2
  rw [hS] at hw
  have B2 := hide b2
  clear b2 HW
  go_wp2_with fail
  refine hw.mono ?_
  clear hw
  rintro en w3 ⟨rfl, b3⟩
  have b3' := (unhide B2).trans (b3.mono (unhide B2).size)
  have hr := unhide HR w3 b3'
  have B3 := hide b3'
  clear b3 b3' HR
  go_wp2_with fail
  refine hr.mono ?_
  clear hr
  rintro en w4 ⟨rfl, b4⟩
  have H4 := hide ((unhide B3).trans (b4.mono (unhide B3).size))
  clear b4
  go_wp2_with fail
  exact ⟨rfl, rfl, Kp.of_below (unhide H4)⟩

set_option maxRecDepth 100000 in
set_option maxHeartbeats 4000000 in
theorem enter_any {rb e : Nat} {w : World} {l : List Tok} {it dp : Nat} (h : Rd rb e w l it dp) (hd : dp < 32) :
  Calls Tryz.prog 159 #[.pointer (some ⟨rb, 0, none⟩)] w fun en w' => en = .returned (.tuple #[]) ∧ Rd rb e w' l it (dp + 1) ∧ Kp rb w w' := by
 obtain ⟨v, hbx, hT⟩ := h.box
 have c3 : w.cell? ⟨rb, 3, none⟩ = some (.int .i64 (dp : Int)) := by rw [cell_hp hbx]; rfl
 have f3 : w.frozen? ⟨rb, 3, none⟩ = false := by simp [World.frozen?, hbx]
 have hz : ((dp : Int) == 32) = false := by simp; omega
 have HF : Hid (Rd rb e (w.setCell ⟨rb, 3, none⟩ (.int .i64 ((dp : Int) + 1))) l it (dp + 1)) := ⟨⟨v, by have := set_hp hbx 3 (.int .i64 ((dp : Int) + 1)); exact this.trans (by rw [Int.natCast_add]; rfl), hT.kp (Kp.set rb w 3 _)⟩, h.num, h.len, h.end_⟩
 clear h hbx hT
 go_enter Tryz.func159, Tryz.ntmps159
 go_wp2_with fail
 go_end0
 exact ⟨rfl, unhide HF, Kp.set rb w 3 _⟩
set_option maxRecDepth 100000 in
set_option maxHeartbeats 4000000 in
theorem enter_no {rb e : Nat} {w : World} {l : List Tok} {it : Nat} (h : Rd rb e w l it 32) :
  Calls Tryz.prog 159 #[.pointer (some ⟨rb, 0, none⟩)] w fun en w' => en = .panicked [{ v := stopV 4 (ahd e 0 l).at_, recovered := false }] ∧ Below w.heap.size w w' := by
 obtain ⟨v, hbx, hT⟩ := h.box
 have c3 : w.cell? ⟨rb, 3, none⟩ = some (.int .i64 32) := by rw [cell_hp hbx]; rfl
 have hr := refuse_any h 4
 clear h hbx hT
 go_enter Tryz.func159, Tryz.ntmps159
 go_wp2_with fail
 refine hr.mono ?_
 clear hr
 rintro en w4 ⟨rfl, b4⟩
 have H4 := hide b4
 clear b4
 go_wp2_with fail
 exact ⟨rfl, rfl, unhide H4⟩
set_option maxRecDepth 100000 in
set_option maxHeartbeats 4000000 in
theorem leave_any {rb e : Nat} {w : World} {l : List Tok} {it dp : Nat} (h : Rd rb e w l it (dp + 1)) (hd : dp < 32) :
  Calls Tryz.prog 163 #[.pointer (some ⟨rb, 0, none⟩)] w fun en w' => en = .returned (.tuple #[]) ∧ Rd rb e w' l it dp ∧ Kp rb w w' := by
 obtain ⟨v, hbx, hT⟩ := h.box
 have c3 : w.cell? ⟨rb, 3, none⟩ = some (.int .i64 ((dp : Int) + 1)) := by rw [cell_hp hbx, Int.natCast_add]; rfl
 have f3 : w.frozen? ⟨rb, 3, none⟩ = false := by simp [World.frozen?, hbx]
 have HF : Hid (Rd rb e (w.setCell ⟨rb, 3, none⟩ (.int .i64 (dp : Int))) l it dp) := ⟨⟨v, set_hp hbx 3 (.int .i64 (dp : Int)), hT.kp (Kp.set rb w 3 _)⟩, h.num, h.len, h.end_⟩
 clear h hbx hT
 go_enter Tryz.func163, Tryz.ntmps163
 go_wp2_with fail
 go_end0
 exact ⟨rfl, by simpa using unhide HF, Kp.set rb w 3 _⟩
end Go.Proofs.YtdjehbdpcdikkaaGreatDoor

namespace Go.Proofs.YtdjehbdpcdikkaaGreatDoor
open Go.RowKit

/-- Signs in memory. -/
def SgAt (rb : Nat) (w : World) (v : Value) (ss : List Txt) : Prop := ∃ b off c, v = .slice (some ⟨b, off, none⟩) ss.length c ∧ b ≠ rb ∧ b < w.heap.size ∧ ∀ j x, ss[j]? = some x → w.cell? ⟨b, off + j, none⟩ = some (str x)
theorem SgAt.kp {rb : Nat} {w w' : World} {v : Value} {ss : List Txt} (h : SgAt rb w v ss) (k : Kp rb w w') : SgAt rb w' v ss := by
 obtain ⟨b, off, c, h1, h2, h3, h4⟩ := h
 refine ⟨b, off, c, h1, h2, by have := k.size; omega, fun j x hx => ?_⟩
 have := h4 j x hx
 simp only [World.cell?] at this ⊢
 rw [k.block b h3 h2]; exact this
theorem contains_any {rb : Nat} {w : World} {v : Value} {ss : List Txt} (h : SgAt rb w v ss) (hl : ss.length ≤ 100) (g : Txt) :
  Calls Tryz.prog 182 #[v, str g] w fun en w' => en = .returned (.bool (decide (g ∈ ss))) ∧ w' = w := by
 obtain ⟨b, off, c, rfl, h2, h3, h4⟩ := h
 have := Tryz.slices_Contains_string b off ss.length c (ss.map fun x => (⟨x.toArray⟩ : ByteArray)) ⟨g.toArray⟩ w (by simp) (by omega) (fun j hj => by
  have hj' : j < ss.length := by simpa using hj
  rw [List.getD_eq_getElem?_getD, List.getElem?_map, List.getElem?_eq_getElem hj']
  exact h4 j _ (List.getElem?_eq_getElem hj'))
 refine this.mono ?_
 rintro en w' ⟨rfl, rfl⟩
 refine ⟨?_, rfl⟩
 congr 2
 rw [Bool.eq_iff_iff, Lib.containsS_iff, decide_eq_true_eq, List.take_of_length_le (by simp), List.mem_map]
 constructor
 · rintro ⟨x, hx, e⟩; rw [bytes_eq.1 e] at hx; exact hx
 · exact fun hx => ⟨g, hx, rfl⟩

set_option maxRecDepth 100000 in
set_option maxHeartbeats 4000000 in
theorem choose_any {rb e : Nat} {w : World} {l : List Tok} {it dp : Nat} (h : Rd rb e w l it dp) (v : Value) (ss : List Txt) (hs : SgAt rb w v ss) (hl : ss.length ≤ 100) (hne : [] ∉ ss) :
  Calls Tryz.prog 152 #[.pointer (some ⟨rb, 0, none⟩), v] w fun en w' => Ans rb e dp w (fun _ v x => v = str x) (choose e ss l it) en w' := by
 have hg := sign_any h
 have HC : Hid (∀ u, Below w.heap.size w u → Calls Tryz.prog 182 #[v, str (sgn e l)] u fun en w' => en = .returned (.bool (decide (sgn e l ∈ ss))) ∧ w' = u) := fun u hu => contains_any (hs.kp (Kp.of_below hu)) hl _
 obtain ⟨b, off, c, ev, _⟩ := id hs
 subst ev
 by_cases hS : sgn e l ∈ ss
 ·
  have E : choose e ss l it = .ok (ahd e 0 l).text (l.drop 1) it := if_pos hS
  rw [E]
  obtain ⟨t, l', rfl, hq⟩ := sgn_cons (s := sgn e l) rfl (fun e => hne (e ▸ hS))
  clear hq
  have HT : Hid (∀ v, Below w.heap.size w v → Calls Tryz.prog 150 #[.pointer (some ⟨rb, 0, none⟩)] v fun en w' => en = .returned (.agg #[.int .i64 t.kind, str t.text, .int .i64 t.num, .int .i64 (t.at_ : Int)]) ∧ Rd rb e w' l' it dp ∧ Kp rb v w') := fun v hv => take_any (h.later hv)
  have e0 : ahd e 0 (t :: l') = t := rfl
  rw [e0]
  rw [decide_eq_true hS] at HC
  generalize sgn e (t :: l') = g at hg HC
  clear h E e0 hS hs
  go_enter Tryz.func152, Tryz.ntmps152
  go_wp2_with fail
  refine hg.mono ?_
  clear hg
  rintro en w2 ⟨rfl, b2⟩
  have hc := unhide HC w2 b2
  have ht := unhide HT w2 b2
  have B2 := hide b2
  clear b2 HC HT
  go_wp2_with fail
  refine hc.mono ?_
  clear hc
  rintro en w3 ⟨rfl, hw3⟩
  subst hw3
  go_wp2_with fail
  refine ht.mono ?_
  clear ht
  rintro en w4 ⟨rfl, hR4, k4⟩
  have H4 := hide (And.intro hR4 ((Kp.of_below (unhide B2)).trans k4))
  clear hR4 k4
  go_wp2_with fail
  rename_i hK
  refine hK _ _ ?_
  clear hK
  go_wp2_with fail
  go_ret
  exact ⟨_, rfl, rfl, unhide H4⟩
 ·
  have E : choose e ss l it = .bad 10 (ahd e 0 l).at_ l := if_neg hS
  rw [E]
  have HR : Hid (∀ v, Below w.heap.size w v → Calls Tryz.prog 132 #[.pointer (some ⟨rb, 0, none⟩), .int .i64 10] v fun en w' => en = .panicked [{ v := stopV 10 (ahd e 0 l).at_, recovered := false }] ∧ Below v.heap.size v w') := fun v hv => refuse_any (h.later hv) 10
  rw [decide_eq_false hS] at HC
  generalize (ahd e 0 l).at_ = at0 at HR
  generalize sgn e l = g at hg HC
  clear h E hS hs
  go_enter Tryz.func152, Tryz.ntmps152
  go_wp2_with fail
  refine hg.mono ?_
  clear hg
  rintro en w2 ⟨rfl, b2⟩
  have hc := unhide HC w2 b2
  have hr := unhide HR w2 b2
  have B2 := hide b2
  clear b2 HC HR
  go_wp2_with fail
  refine hc.mono ?_
  clear hc
  rintro en w3 ⟨rfl, hw3⟩
  subst hw3
  go_wp2_with fail
  refine hr.mono ?_
  clear hr
  rintro en w4 ⟨rfl, b4⟩
  have H4 := hide ((unhide B2).trans (b4.mono (unhide B2).size))
  clear b4
  go_wp2_with fail
  exact ⟨rfl, rfl, Kp.of_below (unhide H4)⟩

set_option maxRecDepth 100000 in
set_option maxHeartbeats 4000000 in
theorem callNext_any {rb e : Nat} {w : World} {l : List Tok} {it dp : Nat} (h : Rd rb e w l it dp) :
  Calls Tryz.prog 158 #[.pointer (some ⟨rb, 0, none⟩)] w fun en w' => en = .returned (.bool (callN e l)) ∧ Below w.heap.size w w' := by
 have h1 := ahead_any h 1
 unfold tokV at h1
 have H0 : Hid (∀ v, Below w.heap.size w v → Calls Tryz.prog 107 #[.pointer (some ⟨rb, 0, none⟩), .int .i64 0] v fun en w' => en = .returned (.agg #[.int .i64 (ahd e 0 l).kind, str (ahd e 0 l).text, .int .i64 (ahd e 0 l).num, .int .i64 ((ahd e 0 l).at_ : Int)]) ∧ Below v.heap.size v w') := fun v hv => ahead_any (h.later hv) 0
 have hA := hide (show callN e l = (decide ((ahd e 0 l).kind = 1) && decide ((ahd e 1 l).kind = 4) && decide ((ahd e 1 l).text = [40])) from rfl)
 clear h
 generalize ahd e 0 l = s at H0 hA
 generalize ahd e 1 l = t at h1 hA
 have k1 : (s.kind == 1) = decide (s.kind = 1) := rfl
 have k2 : (t.kind == 4) = decide (t.kind = 4) := rfl
 go_enter Tryz.func158, Tryz.ntmps158
 go_wp2_with fail
 refine h1.mono ?_
 clear h1
 rintro en w2 ⟨rfl, b2⟩
 obtain ⟨w3, hw3⟩ : ∃ w3, w3 = w2.alloc (.cells #[.int .i64 t.kind, str t.text, .int .i64 t.num, .int .i64 (t.at_ : Int)] 43) := ⟨_, rfl⟩
 have b3 : Below w.heap.size w w3 := by rw [hw3]; exact b2.alloc b2.size _
 have n3 : w3.heap[w2.heap.size]? = some (.cells #[.int .i64 t.kind, str t.text, .int .i64 t.num, .int .i64 (t.at_ : Int)] 43 (0, 0)) := by rw [hw3]; exact heap_alloc_new w2 _
 have h0 := unhide H0 w3 b3
 have N3 := hide (And.intro b3 n3)
 have HW3 := hide hw3
 clear b2 b3 n3 H0 hw3
 go_wp2_with fail
 rw [← unhide HW3]
 refine h0.mono ?_
 clear h0
 rintro en w4 ⟨rfl, b4⟩
 have n4 : w4.heap[w2.heap.size]? = some (.cells #[.int .i64 t.kind, str t.text, .int .i64 t.num, .int .i64 (t.at_ : Int)] 43 (0, 0)) := (b4.block _ (lt_hp (unhide N3).2)).trans (unhide N3).2
 have c0 := (cell_hp n4 0).trans (show _ = some (.int .i64 t.kind) from rfl)
 have c1 := (cell_hp n4 1).trans (show _ = some (str t.text) from rfl)
 have B4 := hide ((unhide N3).1.trans (b4.mono (unhide N3).1.size))
 clear b4 n4
 go_wp2_with fail
 rename_i hK
 refine hK _ _ ?_
 clear hK
 by_cases e1 : s.kind = 1
 ·
  have q1 : (s.kind == 1) = true := by simpa using e1
  by_cases e2 : t.kind = 4
  ·
   have q2 : (t.kind == 4) = true := by simpa using e2
   have HK := hide (And.intro e1 e2)
   clear e1 e2 k1 k2
   go_wp2_with fail
   go_ret
   refine ⟨?_, unhide B4⟩
   rw [unhide hA, decide_eq_true (unhide HK).1, decide_eq_true (unhide HK).2, Bool.true_and, Bool.true_and]
   show Ending.returned (.bool (t.text == [40])) = _
   congr 2
   rw [Bool.eq_iff_iff]; simp
  ·
   have q2 : (t.kind == 4) = false := by simpa using e2
   have HK := hide (And.intro e1 e2)
   clear e1 e2 k1 k2
   go_wp2_with fail
   go_ret
   exact ⟨by rw [unhide hA, decide_eq_true (unhide HK).1, decide_eq_false (unhide HK).2]; rfl, unhide B4⟩
 ·
  have q1 : (s.kind == 1) = false := by simpa using e1
  have HK := hide e1
  clear e1 k1 k2
  go_wp2_with fail
  go_ret
  exact ⟨by rw [unhide hA, decide_eq_false (unhide HK)]; rfl, unhide B4⟩
end Go.Proofs.YtdjehbdpcdikkaaGreatDoor

namespace Go.Proofs.YtdjehbdpcdikkaaGreatDoor
open Go.RowKit

/-- A block stays. -/
theorem Kp.keep {rb : Nat} {w w' : World} {k : Nat} {o : Obj} (h : Kp rb w w') (hk : w.heap[k]? = some o) (hn : k ≠ rb) : w'.heap[k]? = some o := (h.block k (lt_hp hk) hn).trans hk
theorem Kp.set2 {rb : Nat} {w w' : World} {k i : Nat} {v : Value} (h : Kp rb w w') (hk : w.heap.size ≤ k) : Kp rb w (w'.setCell ⟨k, i, none⟩ v) := by
 have hb := (Below.refl 0 w').setCell (p := ⟨k, i, none⟩) (Nat.zero_le _) v
 exact ⟨hb.os.trans h.os, hb.tape.trans h.tape, hb.output.trans h.output, Nat.le_trans h.size hb.size, fun j hj hn => (Below.heap_setCell _ _ _ _ (by show j ≠ k; omega)).trans (h.block j hj hn)⟩
/-- What lies apart is written. -/
theorem Rd.set2 {rb e : Nat} {w : World} {l : List Tok} {it dp : Nat} (h : Rd rb e w l it dp) {k i : Nat} {v : Value} (hk : rb < k) : Rd rb e (w.setCell ⟨k, i, none⟩ v) l it dp := by
 obtain ⟨u, h1, a, cap, h2, h3, h4, h5⟩ := h.box
 refine ⟨⟨u, (Below.heap_setCell _ _ _ _ (by show rb ≠ k; omega)).trans h1, a, cap, h2, h3, h4, fun j t hj => ?_⟩, h.num, h.len, h.end_⟩
 obtain ⟨b, o, e1, e2, e3⟩ := h5 j t hj
 exact ⟨b, o, e1, e2, e3.same (Below.heap_setCell _ _ _ _ (by show b ≠ k; omega))⟩

set_option maxRecDepth 100000 in
set_option maxHeartbeats 4000000 in
theorem field_any {rb e : Nat} {w : World} {l : List Tok} {it dp : Nat} (h : Rd rb e w l it dp) :
  Calls Tryz.prog 157 #[.pointer (some ⟨rb, 0, none⟩)] w fun en w' => Ans rb e dp w (fun _ v f => v = .agg #[str f.name, str f.type]) (fieldP e l it) en w' := by
 obtain ⟨w1, hw1⟩ : ∃ w1, w1 = w.alloc (.cells #[.string ⟨#[]⟩, .string ⟨#[]⟩] 124) := ⟨_, rfl⟩
 have b1 : Below w.heap.size w w1 := by rw [hw1]; exact (Below.refl _ w).alloc (Nat.le_refl _) _
 have q1 : w1.heap[w.heap.size]? = some (.cells #[.string ⟨#[]⟩, .string ⟨#[]⟩] 124 (0, 0)) := by rw [hw1]; exact heap_alloc_new w _
 have hw := wordq_any (h.later b1)
 have hrb := h.lt
 have K1 := hide (And.intro (Kp.of_below (rb := rb) b1) q1)
 have HW1 := hide hw1
 clear b1 q1 hw1
 cases hq : wordQ e l it with
 | bad why a l2 =>
  have E : fieldP e l it = .bad why a l2 := by unfold fieldP; rw [hq]; rfl
  rw [E]
  rw [hq] at hw
  clear h E hq
  go_enter Tryz.func157, Tryz.ntmps157
  go_wp2_with fail
  rw [← unhide HW1]
  refine hw.mono ?_
  clear hw
  rintro en w2 ⟨rfl, k2⟩
  have H2 := hide ((unhide K1).1.trans k2)
  clear k2
  go_wp2_with fail
  exact ⟨rfl, rfl, unhide H2⟩
 | ok n l2 i2 =>
  have E1 : fieldP e l it = (want e [58] l2 i2).bind fun _ l i => (nmQ e l i).map fun t => ⟨n, t⟩ := by unfold fieldP; rw [hq]; rfl
  rw [hq] at hw
  clear hq
  obtain ⟨PO, hPO⟩ : ∃ PO : Ending → World → Prop, PO = fun en w' => Ans rb e dp w (fun _ v (f : Fld) => v = .agg #[str f.name, str f.type]) (fieldP e l it) en w' := ⟨_, rfl⟩
  rw [← hPO]
  rw [E1] at hPO
  have HPO := hide hPO
  clear h E1 hPO
  go_enter Tryz.func157, Tryz.ntmps157
  go_wp2_with fail
  rw [← unhide HW1]
  refine hw.mono ?_
  clear hw
  rintro en w2 ⟨_, rfl, rfl, hR2, k2⟩
  obtain ⟨w3, hw3⟩ : ∃ w3, w3 = w2.alloc (.cells #[str n, .string ⟨#[]⟩] 124) := ⟨_, rfl⟩
  have b3 : Below w2.heap.size w2 w3 := by rw [hw3]; exact (Below.refl _ w2).alloc (Nat.le_refl _) _
  have q3 : w3.heap[w2.heap.size]? = some (.cells #[str n, .string ⟨#[]⟩] 124 (0, 0)) := by rw [hw3]; exact heap_alloc_new w2 _
  have hwt := want_any (hR2.later b3) [58] (by simp)
  have k3 : Kp rb w w3 := ((unhide K1).1.trans k2).trans (Kp.of_below b3)
  have q0 := k2.keep (unhide K1).2 (by omega)
  have q0' := (b3.block _ (lt_hp q0)).trans q0
  have hlt2 : w.heap.size < w2.heap.size := lt_hp q0
  have K3 := hide (And.intro k3 (And.intro q3 q0'))
  have HW3 := hide hw3
  clear hR2 k2 b3 q3 k3 q0 q0' hw3 K1
  cases hq2 : want e [58] l2 i2 with
  | bad why a l3 =>
   rw [hq2] at hwt
   have HP2 : Hid (PO = fun en w' => en = .panicked [{ v := stopV why a, recovered := false }] ∧ Kp rb w w') := by
    have := unhide HPO
    rw [hq2] at this
    exact this
   clear hq2 HPO
   go_wp2_with fail
   rw [← unhide HW3]
   refine hwt.mono ?_
   clear hwt
   rintro en w4 ⟨rfl, k4⟩
   have H4 := hide ((unhide K3).1.trans k4)
   clear k4
   go_wp2_with fail
   refine ⟨rfl, ?_⟩
   rw [unhide HP2]
   exact ⟨rfl, unhide H4⟩
  | ok u l3 i3 =>
   rw [hq2] at hwt
   have HP2 : Hid (PO = fun en w' => Ans rb e dp w (fun _ v (f : Fld) => v = .agg #[str f.name, str f.type]) ((nmQ e l3 i3).map fun t => ⟨n, t⟩) en w') := by
    have := unhide HPO
    rw [hq2] at this
    exact this
   clear hq2 HPO
   go_wp2_with fail
   rw [← unhide HW3]
   refine hwt.mono ?_
   clear hwt
   rintro en w4 ⟨_, rfl, rfl, hR4, k4⟩
   have hnm := name_any hR4
   have q4 := k4.keep (unhide K3).2.1 (by omega)
   have p4 := k4.keep (unhide K3).2.2 (by omega)
   have K4 := hide (And.intro ((unhide K3).1.trans k4) (And.intro q4 p4))
   clear hR4 k4 q4 p4 K3
   cases hq3 : nmQ e l3 i3 with
   | bad why a l4 =>
    rw [hq3] at hnm
    have HP3 : Hid (PO = fun en w' => en = .panicked [{ v := stopV why a, recovered := false }] ∧ Kp rb w w') := by
     have := unhide HP2
     rw [hq3] at this
     exact this
    clear hq3 HP2
    go_wp2_with fail
    refine hnm.mono ?_
    clear hnm
    rintro en w5 ⟨rfl, k5⟩
    have H5 := hide ((unhide K4).1.trans k5)
    clear k5
    go_wp2_with fail
    refine ⟨rfl, ?_⟩
    rw [unhide HP3]
    exact ⟨rfl, unhide H5⟩
   | ok t l4 i4 =>
    rw [hq3] at hnm
    have HP3 : Hid (PO = fun en w' => ∃ v, en = .returned v ∧ v = .agg #[str n, str t] ∧ Rd rb e w' l4 i4 dp ∧ Kp rb w w') := by
     have := unhide HP2
     rw [hq3] at this
     exact this
    clear hq3 HP2
    go_wp2_with fail
    refine hnm.mono ?_
    clear hnm
    rintro en w5 ⟨_, rfl, rfl, hR5, k5⟩
    have q5 := k5.keep (unhide K4).2.1 (by omega)
    have p5 := k5.keep (unhide K4).2.2 (by omega)
    have s5 := lt_hp q5
    have kk := (unhide K4).1.trans k5
    have c1 : w5.cell? ⟨w2.heap.size, 1, none⟩ = some (.string ⟨#[]⟩) := by rw [cell_hp q5]; rfl
    have f1 : w5.frozen? ⟨w2.heap.size, 1, none⟩ = false := by simp [World.frozen?, q5]
    have q6 : (w5.setCell ⟨w2.heap.size, 1, none⟩ (str t)).heap[w2.heap.size]? = some (.cells #[str n, str t] 124 (0, 0)) := (set_hp q5 1 (str t)).trans rfl
    have p6 : (w5.setCell ⟨w2.heap.size, 1, none⟩ (str t)).heap[w.heap.size]? = some (.cells #[.string ⟨#[]⟩, .string ⟨#[]⟩] 124 (0, 0)) := (Below.heap_setCell _ _ _ _ (by show w.heap.size ≠ w2.heap.size; omega)).trans p5
    have x0 := (cell_hp q6 0).trans (show _ = some (str n) from rfl)
    have x1 := (cell_hp q6 1).trans (show _ = some (str t) from rfl)
    have y0 := (cell_hp p6 0).trans (show _ = some (.string ⟨#[]⟩) from rfl)
    have y1 := (cell_hp p6 1).trans (show _ = some (.string ⟨#[]⟩) from rfl)
    have yf : ∀ o, (w5.setCell ⟨w2.heap.size, 1, none⟩ (str t)).frozen? ⟨w.heap.size, o, none⟩ = false := fun o => by simp [World.frozen?, p6]
    have HF : Hid (∀ a b, Rd rb e (((w5.setCell ⟨w2.heap.size, 1, none⟩ (str t)).setCell ⟨w.heap.size, 0, none⟩ a).setCell ⟨w.heap.size, 1, none⟩ b) l4 i4 dp ∧ Kp rb w (((w5.setCell ⟨w2.heap.size, 1, none⟩ (str t)).setCell ⟨w.heap.size, 0, none⟩ a).setCell ⟨w.heap.size, 1, none⟩ b)) := fun a b =>
     ⟨((hR5.set2 (by omega)).set2 (by omega)).set2 (by omega), ((kk.set2 (by omega)).set2 (Nat.le_refl _)).set2 (Nat.le_refl _)⟩
    clear hR5 k5 q5 p5 kk q6 p6 K4
    go_wp2_with fail
    refine bodyPost_ret (v := .agg #[str n, str t]) (by simp [results, Tryz.results157, go_sem, y0, y1]) rfl ?_
    rw [unhide HP3]
    exact ⟨_, rfl, rfl, unhide HF _ _⟩
end Go.Proofs.YtdjehbdpcdikkaaGreatDoor

namespace Go.Proofs.YtdjehbdpcdikkaaGreatDoor
open Go.RowKit Go.Maps

theorem wpList_append_run {P : Program} (w : World) {ops : Array Oper} {rest : List Oper} {o : Oper} {a : Act} {Q : Exit → Act → World → Prop}
  (hg : o.guard = none) (s x : Operand) (t : TypeId) (hop : o.op = Op.call { callee := Callee.builtin Builtin.append, args := #[s, x], argTypes := #[t, t] })
  (v u : Value) (hs : a.eval s = v) (hx : a.eval x = u) (v' : Value) (w' : World) (hrun : (Builtin.append_ #[t, t] o.type #[v, u]).run P w = .ok v' w')
  (hK : wpList P ops Q rest (a.put o.dst v') w') : wpList P ops Q (o :: rest) a w := by
 refine wpList_plain hg fun K hK' => ?_
 unfold Oper.wp
 simp [execOp, hop, resolve, invoke, builtin, hs, hx, hrun, Result.andThen]
 exact hK' _ _ hK

/-- What the cells of an x are; S: the blocks where the rest of it lies. -/
abbrev PS (α : Type) := (Nat → Prop) → World → List Value → α → Prop
structure PSok {α : Type} (p : PS α) : Prop where
 mono : ∀ S S' w cs x, p S w cs x → (∀ b, b < w.heap.size → S b → S' b) → p S' w cs x
 same : ∀ S w w' cs x, p S w cs x → w.heap.size ≤ w'.heap.size → (∀ b, S b → b < w.heap.size → w'.heap[b]? = w.heap[b]?) → p S w' cs x
/-- The cells of each x of a list. -/
def All {α : Type} (p : PS α) (k : Nat) (S : Nat → Prop) (w : World) (css : List (List Value)) (xs : List α) : Prop := css.length = xs.length ∧ ∀ (j : Nat) (x : α) (cs : List Value), xs[j]? = some x → css[j]? = some cs → cs.length = k ∧ p S w cs x
/-- A list in memory. -/
def LsAt {α : Type} (p : PS α) (k : Nat) (S : Nat → Prop) (w : World) (v : Value) (xs : List α) : Prop := ∃ a cap css, v = .slice a xs.length cap ∧ xs.length ≤ cap ∧ cap ≤ maxLen ∧ All p k S w css xs ∧ (xs ≠ [] → ∃ b, a = some ⟨b, 0, none⟩ ∧ S b ∧ b < w.heap.size ∧ ∀ j c, css.flatten[j]? = some c → w.cell? ⟨b, j, none⟩ = some c)
section
variable {α : Type} {p : PS α} {k : Nat}
theorem All.mono (hp : PSok p) {S S' : Nat → Prop} {w : World} {css : List (List Value)} {xs : List α} (h : All p k S w css xs) (hS : ∀ b, b < w.heap.size → S b → S' b) : All p k S' w css xs :=
 ⟨h.1, fun j x cs h1 h2 => ⟨(h.2 j x cs h1 h2).1, hp.mono _ _ _ _ _ (h.2 j x cs h1 h2).2 hS⟩⟩
theorem All.same (hp : PSok p) {S : Nat → Prop} {w w' : World} {css : List (List Value)} {xs : List α} (h : All p k S w css xs) (hs : w.heap.size ≤ w'.heap.size) (hb : ∀ b, S b → b < w.heap.size → w'.heap[b]? = w.heap[b]?) : All p k S w' css xs :=
 ⟨h.1, fun j x cs h1 h2 => ⟨(h.2 j x cs h1 h2).1, hp.same _ _ _ _ _ (h.2 j x cs h1 h2).2 hs hb⟩⟩
theorem All.snoc {S : Nat → Prop} {w : World} {css : List (List Value)} {xs : List α} {cs : List Value} {x : α} (h : All p k S w css xs) (hl : cs.length = k) (hx : p S w cs x) : All p k S w (css ++ [cs]) (xs ++ [x]) := by
 refine ⟨by simp [h.1], fun j y c h1 h2 => ?_⟩
 by_cases hj : j < xs.length
 ·
  rw [List.getElem?_append_left hj] at h1
  rw [List.getElem?_append_left (by rw [h.1]; exact hj)] at h2
  exact h.2 j y c h1 h2
 ·
  rw [List.getElem?_append_right (by omega)] at h1
  rw [List.getElem?_append_right (by rw [h.1]; omega), h.1] at h2
  have hz : j - xs.length = 0 := by
   have := (List.getElem?_eq_some_iff.1 h1).1
   simp at this
   omega
  rw [hz] at h1 h2
  simp at h1 h2
  subst h1 h2
  exact ⟨hl, hx⟩
theorem LsAt.mono (hp : PSok p) {S S' : Nat → Prop} {w : World} {v : Value} {xs : List α} (h : LsAt p k S w v xs) (hS : ∀ b, b < w.heap.size → S b → S' b) : LsAt p k S' w v xs := by
 obtain ⟨a, cap, css, h1, h2, h3, h4, h5⟩ := h
 refine ⟨a, cap, css, h1, h2, h3, h4.mono hp hS, fun hn => ?_⟩
 obtain ⟨b, e1, e2, e3, e4⟩ := h5 hn
 exact ⟨b, e1, hS b e3 e2, e3, e4⟩
theorem LsAt.same (hp : PSok p) {S : Nat → Prop} {w w' : World} {v : Value} {xs : List α} (h : LsAt p k S w v xs) (hs : w.heap.size ≤ w'.heap.size) (hb : ∀ b, S b → b < w.heap.size → w'.heap[b]? = w.heap[b]?) : LsAt p k S w' v xs := by
 obtain ⟨a, cap, css, h1, h2, h3, h4, h5⟩ := h
 refine ⟨a, cap, css, h1, h2, h3, h4.same hp hs hb, fun hn => ?_⟩
 obtain ⟨b, e1, e2, e3, e4⟩ := h5 hn
 refine ⟨b, e1, e2, by omega, fun j c hj => ?_⟩
 have := e4 j c hj
 simp only [World.cell?] at this ⊢
 rw [hb b e2 e3]; exact this
theorem LsAt.nil (S : Nat → Prop) (w : World) : LsAt p k S w (.slice none 0 0) [] := ⟨none, 0, [], rfl, Nat.le_refl _, Nat.zero_le _, ⟨rfl, fun j x cs h => by simp at h⟩, fun h => absurd rfl h⟩
/-- A row of one's own is a list. -/
theorem LsAt.of {base : Nat} {T : TypeId} {w : World} {v : Value} {css : List (List Value)} {xs : List α} (ho : w.ownsRow base T k v xs.length css.flatten) (ha : All p k (fun b => base ≤ b) w css xs) : LsAt p k (fun b => base ≤ b) w v xs := by
 rcases id ho.2 with ⟨e, e2⟩ | ⟨g, cap, cur, e, hb, hg, hn, hm, _⟩
 ·
  have hx : xs = [] := List.length_eq_zero_iff.1 e2
  subst hx
  rw [e]
  exact LsAt.nil _ _
 ·
  refine ⟨some ⟨g, 0, none⟩, cap, css, e, hn, hm, ha, fun _ => ⟨g, rfl, hb, lt_hp hg, fun j c hj => ?_⟩⟩
  subst e
  have hl : j < xs.length * k := by rw [← ho.1]; exact (List.getElem?_eq_some_iff.1 hj).1
  rw [World.ownsRow.cellAt ho j hl]; exact hj
/-- On the way through a list. -/
structure LI (p : PS α) (k : Nat) (T : TypeId) (rb e dp : Nat) (sep : Txt) (most : Nat) (part : Pr α) (r0 : Rs (List α)) (w : World) (sl : Value) (wr : World) (acc : List α) (l : List Tok) (it f : Nat) : Prop where
 kp : Kp rb w wr
 rd : Rd rb e wr l it dp
 own : ∃ css, wr.ownsRow w.heap.size T k sl acc.length css.flatten ∧ All p k (fun b => w.heap.size ≤ b ∧ some b ≠ sl.ownBlock) wr css acc
 eq : r0 = listL e sep most part f acc l it
 fuel : l.length + 1 ≤ f
 few : acc.length + l.length ≤ 65536
/-- How many tokens are left. -/
def left (rb : Nat) (w : World) : Nat := match w.cell? ⟨rb, 0, none⟩ with | some (.slice _ n _) => n | _ => 0
theorem left_rd {rb e : Nat} {w : World} {l : List Tok} {it dp : Nat} (h : Rd rb e w l it dp) : left rb w = l.length := by
 obtain ⟨a, cap, c0, _⟩ := h.cells
 unfold left
 rw [c0]
/-- One more is appended. -/
theorem LI.more (hp : PSok p) {T ST : TypeId} {i0 : TypeInfo} {z : Value} {by_ : Nat} (ht : Tryz.prog.underlying ST = some (.slice T)) (hi : Tryz.prog.info? T = some i0) (hz : i0.zero = some z) (hsz : i0.size = k) (hby : i0.bytes = by_) (hzc : z.cells.size = k) (hk : 0 < k) (hb6 : by_ ≤ 1000)
  {rb e dp : Nat} {sep : Txt} {most : Nat} {part : Pr α} {r0 : Rs (List α)} {w wr w2 : World} {sl : Value} {acc : List α} {l l2 : List Tok} {it i2 f : Nat} (h : LI p k T rb e dp sep most part r0 w sl wr acc l it f) {x : α} {cs : List Value}
  (hl : cs.length = k) (h1 : ∀ c ∈ cs, c.oneCell' = true) (hx : p (fun b => wr.heap.size ≤ b) w2 cs x) (hR : Rd rb e w2 l2 i2 dp) (k2 : Kp rb wr w2) (hrb : rb < w.heap.size) :
  ∃ r w8, (Builtin.append_ #[ST, ST] ST #[sl, .slice (some ⟨w2.heap.size, 0, none⟩) 1 1]).run Tryz.prog (w2.alloc (.cells cs.toArray T)) = .ok r w8 ∧ Kp rb w w8 ∧ Rd rb e w8 l2 i2 dp ∧ (∃ a c, r = .slice a (acc.length + 1) c) ∧
   ∃ css, w8.ownsRow w.heap.size T k r (acc ++ [x]).length css.flatten ∧ All p k (fun b => w.heap.size ≤ b ∧ some b ≠ r.ownBlock) w8 css (acc ++ [x]) := by
 obtain ⟨css, ho, ha⟩ := h.own
 have hs0 := h.kp.size
 have hs2 := k2.size
 have hown : ∀ b, some b = sl.ownBlock → w.heap.size ≤ b ∧ b < wr.heap.size := fun b e => World.ownsRow.lt ho b e.symm
 have ho2 : (w2.alloc (.cells cs.toArray T)).ownsRow w.heap.size T k sl acc.length css.flatten := by
  refine World.ownsRow.alloc ?_ _
  refine ⟨ho.1, ?_⟩
  rcases ho.2 with e | ⟨g, cap, cur, e1, e2, e3, e4⟩
  · exact .inl e
  · exact .inr ⟨g, cap, cur, e1, e2, k2.keep e3 (by omega), e4⟩
 have hf := h.few
 obtain ⟨r, w8, hr, o8, g8, _, a8⟩ := run_append_own_at (P := Tryz.prog) (w2.alloc (.cells cs.toArray T)) w.heap.size ST ST T i0 z k by_ ht hi hz hsz hby hzc hk sl acc.length css.flatten ho2 ⟨w2.heap.size, 0, none⟩ 1 1 cs (by rw [hl, Nat.one_mul]) (fun j u hj => by
  have e1 : (⟨w2.heap.size, 0, none⟩ : Addr).add j = ⟨w2.heap.size, j, none⟩ := by cases j <;> simp [Addr.add]
  rw [e1, cell_hp (heap_alloc_new w2 _)]
  simpa using hj) h1 (by unfold maxLen; omega) (by
  have h3 : acc.length + 1 ≤ 65537 := by omega
  have := Nat.mul_le_mul h3 hb6
  omega) (by simp; omega)
 have hz2 : (w2.alloc (.cells cs.toArray T)).heap.size = w2.heap.size + 1 := by simp
 have hs8 := g8.size
 have hsame : ∀ b, b < w2.heap.size → some b ≠ sl.ownBlock → w8.heap[b]? = w2.heap[b]? := fun b hb hn => by
  rw [g8.block b (by omega) hn, Below.heap_alloc _ _ _ hb]
 have kp8 : Kp rb w w8 := by
  have hb := (Below.refl w2.heap.size w2).alloc (Nat.le_refl _) (.cells cs.toArray T)
  refine ⟨g8.os.trans (hb.os.trans (k2.os.trans h.kp.os)), g8.tape.trans (hb.tape.trans (k2.tape.trans h.kp.tape)), g8.output.trans (hb.output.trans (k2.output.trans h.kp.output)), by omega, fun j hj hn => ?_⟩
  rw [hsame j (by omega) (fun e => by have := (hown j e).1; omega), k2.block j (by omega) hn]
  exact h.kp.block j hj hn
 have rd8 : Rd rb e w8 l2 i2 dp := by
  obtain ⟨v, q1, a, cap, q2, q3, q4, q5⟩ := hR.box
  have hrl := lt_hp q1
  refine ⟨⟨v, (hsame rb hrl (fun e => by have := (hown rb e).1; omega)).trans q1, a, cap, q2, q3, q4, fun j t hj => ?_⟩, hR.num, hR.len, hR.end_⟩
  obtain ⟨b, o, e1, e2, e3⟩ := q5 j t hj
  exact ⟨b, o, e1, e2, e3.same (hsame b e3.lt (fun e => by have := (hown b e).1; omega))⟩
 have hrn : ∀ b, some b = r.ownBlock → some b = sl.ownBlock ∨ w2.heap.size < b + 1 ∧ w2.heap.size + 1 ≤ b := fun b e => by
  rcases a8 with e2 | e2
  · exact .inl (e.trans e2)
  ·
   rw [e2] at e
   simp only [Option.some.injEq] at e
   exact .inr (by omega)
 have hrow : ∃ a c, r = .slice a (acc.length + 1) c := by
  rcases o8.2 with ⟨_, e⟩ | ⟨g, cap, cur, e, _⟩
  · omega
  · exact ⟨_, _, e⟩
 refine ⟨r, w8, hr, kp8, rd8, hrow, css ++ [cs], by rw [List.length_append]; simpa using o8, ?_⟩
 have hold : All p k (fun b => w.heap.size ≤ b ∧ some b ≠ r.ownBlock) w8 css acc := by
  have h2 : All p k (fun b => (w.heap.size ≤ b ∧ some b ≠ sl.ownBlock) ∧ b < wr.heap.size) w2 css acc := (ha.mono hp (fun b hb hs => ⟨hs, hb⟩)).same hp hs2 (fun b hs hb => k2.block b hb (by omega))
  have h3 := h2.same hp (w' := w8) (by omega) (fun b hs hb => hsame b hb hs.1.2)
  refine h3.mono hp (fun b _ hs => ⟨hs.1.1, fun e => ?_⟩)
  rcases hrn b e with e | e
  · exact hs.1.2 e
  · omega
 refine hold.snoc hl ?_
 have hx2 := hp.mono _ (fun b => wr.heap.size ≤ b ∧ b < w2.heap.size) _ _ _ hx (fun b hb hs => ⟨hs, hb⟩)
 have hx3 := hp.same _ _ w8 _ _ hx2 (by omega) (fun b hs hb => hsame b hb (fun e => by have := (hown b e).2; omega))
 refine hp.mono _ _ _ _ _ hx3 (fun b _ hs => ⟨by omega, fun e => ?_⟩)
 rcases hrn b e with e | e
 · have := (hown b e).2; omega
 · omega
end
end Go.Proofs.YtdjehbdpcdikkaaGreatDoor
