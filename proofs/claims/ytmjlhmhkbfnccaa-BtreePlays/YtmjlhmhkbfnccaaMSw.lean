/- Merge: the tuples of one set are put into another. Swap: two sets change places. -/
import Derived.Test.YtmjlhmhkbfnccaaRMerges
import Derived.Test.YtmjlhmhkbfnccaaPairs
import Derived.Test.YtmjlhmhkbfnccaaWalksA
import Derived.BigRegion
namespace Go.Proofs.Ytmjlhmhkbfnccaa
open Go.RowKit Go.Shelf Go.Maps

attribute [local go_sem] Oper.semAt_some

/-- Two sets and the boxes of a call. -/
structure Mg (S : Nat → Prop) (w wx : World) (b2 b4 b5 b7 s1 h1 s2 h2 : Nat) (o1 o2 : List Int) (A ys : List (List Int)) (rv ev nv : Int) : Prop where
  t1 : SetT S wx s1 h1 o1 A
  t2 : SetT S wx s2 h2 o2 ys
  k2 : Boxed wx b2 33 (.pointer (some ⟨s1, 0, none⟩))
  k4 : Boxed wx b4 3 (.int .i64 rv)
  k5 : Boxed wx b5 34 (.int .i64 ev)
  k7 : Boxed wx b7 3 (.int .i64 nv)
  kp : Keeps (fun b => b = h1) w wx
  ne : h1 ≠ h2
  ns : ¬ S b4 ∧ ¬ S b5 ∧ ¬ S b7
  lts : w.heap.size ≤ b2 ∧ b2 < b4 ∧ b4 < b5 ∧ b5 < b7
  n1 : ¬ S h1
  nw : NewIn S wx
  lh : h1 < w.heap.size ∧ h2 < w.heap.size
section
variable {S : Nat → Prop} {w wx wy : World} {b2 b4 b5 b7 s1 h1 s2 h2 : Nat} {o1 o2 : List Int} {A ys : List (List Int)} {rv ev nv : Int}
theorem SetT.step {base : Nat} {s h : Nat} {o : List Int} {xs : List (List Int)} (k : SetT S wx s h o xs) (hs : Step base wx wy) : SetT S wy s h o xs := by
  obtain ⟨l, hl, _⟩ := id k
  obtain ⟨ov, p, d, hh, _⟩ := hl.held
  exact k.stays hs.stays ((hs.same _ _ hh (.inr rfl)).trans hh.symm)
theorem Mg.step {base : Nat} (k : Mg S w wx b2 b4 b5 b7 s1 h1 s2 h2 o1 o2 A ys rv ev nv) (hs : Step base wx wy) (hb : w.heap.size ≤ base) : Mg S w wy b2 b4 b5 b7 s1 h1 s2 h2 o1 o2 A ys rv ev nv :=
  ⟨k.t1.step hs, k.t2.step hs, hs.box k.k2, hs.box k.k4, hs.box k.k5, hs.box k.k7, ⟨hs.os.trans k.kp.os, hs.tape.trans k.kp.tape, hs.output.trans k.kp.output, Nat.le_trans k.kp.size hs.size, fun b o h ho => hs.same b o (k.kp.same b o h ho) (.inl (Nat.lt_of_lt_of_le (lt_heap h) hb))⟩, k.ne, k.ns, k.lts, k.n1, k.nw.later hs.size, k.lh⟩
theorem Mg.later (k : Mg S w wx b2 b4 b5 b7 s1 h1 s2 h2 o1 o2 A ys rv ev nv) (hb : Below wx.heap.size wx wy) : Mg S w wy b2 b4 b5 b7 s1 h1 s2 h2 o1 o2 A ys rv ev nv := k.step (base := wx.heap.size) (Step.of_below hb) k.kp.size
theorem Mg.ins (k : Mg S w wx b2 b4 b5 b7 s1 h1 s2 h2 o1 o2 A ys rv ev nv) {xv : Value} {x : List Int} (hx : Ints wx.heap.size wx xv x) (hB : Bnd x) :
    Calls Try.prog 14 #[.pointer (some ⟨s1, 0, none⟩), xv] wx fun e w' => e = .returned (.tuple #[.bool (insBL o1 x A), .int .i64 (insEL o1 x A)]) ∧ Mg S w w' b2 b4 b5 b7 s1 h1 s2 h2 o1 o2 (insTo o1 x A) ys rv ev nv ∧ Keeps (fun b => b = h1) wx w' := by
  refine (insert_T _ wx s1 h1 o1 x A xv k.t1 hx hB k.nw).mono ?_
  rintro e w' ⟨rfl, h2, hK⟩
  obtain ⟨l1, l2, l3, l4⟩ := k.lts
  have lh := k.lh
  exact ⟨rfl, ⟨h2, k.t2.keeps hK (fun e => k.ne e.symm) k.n1, hK.box k.k2 (by omega), hK.box k.k4 (by omega), hK.box k.k5 (by omega), hK.box k.k7 (by omega), k.kp.trans hK (fun _ _ e => e), k.ne, k.ns, k.lts, k.n1, k.nw.later hK.size, k.lh⟩, hK⟩
theorem Mg.keepB (k : Mg S w wx b2 b4 b5 b7 s1 h1 s2 h2 o1 o2 A ys rv ev nv) {b : Nat} (hb : w.heap.size ≤ b) (hS : ¬ S b) (v : Value) : SetT S (wx.setCell ⟨b, 0, none⟩ v) s1 h1 o1 A ∧ SetT S (wx.setCell ⟨b, 0, none⟩ v) s2 h2 o2 ys ∧ Keeps (fun b => b = h1) w (wx.setCell ⟨b, 0, none⟩ v) ∧ NewIn S (wx.setCell ⟨b, 0, none⟩ v) := by
  have hK : Keeps (fun q => q = b) wx (wx.setCell ⟨b, 0, none⟩ v) := (Keeps.refl (fun q => q = b) wx).setCell ⟨b, 0, none⟩ rfl _
  have lh := k.lh
  exact ⟨k.t1.keeps hK (by omega) hS, k.t2.keeps hK (by omega) hS, k.kp.trans hK (fun q h1 e => by omega), k.nw.later hK.size⟩
theorem Mg.set4 (k : Mg S w wx b2 b4 b5 b7 s1 h1 s2 h2 o1 o2 A ys rv ev nv) (n : Int) : Mg S w (wx.setCell ⟨b4, 0, none⟩ (.int .i64 n)) b2 b4 b5 b7 s1 h1 s2 h2 o1 o2 A ys n ev nv := by
  have hK : Keeps (fun q => q = b4) wx (wx.setCell ⟨b4, 0, none⟩ (.int .i64 n)) := (Keeps.refl (fun q => q = b4) wx).setCell ⟨b4, 0, none⟩ rfl _
  obtain ⟨l1, l2, l3, l4⟩ := k.lts
  obtain ⟨q1, q2, q3, q4⟩ := k.keepB (b := b4) (by omega) k.ns.1 (.int .i64 n)
  exact ⟨q1, q2, hK.box k.k2 (by omega), Boxed.set _ k.k4, hK.box k.k5 (by omega), hK.box k.k7 (by omega), q3, k.ne, k.ns, k.lts, k.n1, q4, k.lh⟩
theorem Mg.set5 (k : Mg S w wx b2 b4 b5 b7 s1 h1 s2 h2 o1 o2 A ys rv ev nv) (n : Int) : Mg S w (wx.setCell ⟨b5, 0, none⟩ (.int .i64 n)) b2 b4 b5 b7 s1 h1 s2 h2 o1 o2 A ys rv n nv := by
  have hK : Keeps (fun q => q = b5) wx (wx.setCell ⟨b5, 0, none⟩ (.int .i64 n)) := (Keeps.refl (fun q => q = b5) wx).setCell ⟨b5, 0, none⟩ rfl _
  obtain ⟨l1, l2, l3, l4⟩ := k.lts
  obtain ⟨q1, q2, q3, q4⟩ := k.keepB (b := b5) (by omega) k.ns.2.1 (.int .i64 n)
  exact ⟨q1, q2, hK.box k.k2 (by omega), hK.box k.k4 (by omega), Boxed.set _ k.k5, hK.box k.k7 (by omega), q3, k.ne, k.ns, k.lts, k.n1, q4, k.lh⟩
theorem Mg.set7 (k : Mg S w wx b2 b4 b5 b7 s1 h1 s2 h2 o1 o2 A ys rv ev nv) (n : Int) : Mg S w (wx.setCell ⟨b7, 0, none⟩ (.int .i64 n)) b2 b4 b5 b7 s1 h1 s2 h2 o1 o2 A ys rv ev n := by
  have hK : Keeps (fun q => q = b7) wx (wx.setCell ⟨b7, 0, none⟩ (.int .i64 n)) := (Keeps.refl (fun q => q = b7) wx).setCell ⟨b7, 0, none⟩ rfl _
  obtain ⟨l1, l2, l3, l4⟩ := k.lts
  obtain ⟨q1, q2, q3, q4⟩ := k.keepB (b := b7) (by omega) k.ns.2.2 (.int .i64 n)
  exact ⟨q1, q2, hK.box k.k2 (by omega), hK.box k.k4 (by omega), hK.box k.k5 (by omega), Boxed.set _ k.k7, q3, k.ne, k.ns, k.lts, k.n1, q4, k.lh⟩
end

/-- The boxes with which it begins. -/
theorem merge_start (w : World) (p : Value) (w1 : World) (hw1 : w1 = ((w.alloc (.cells #[p] 33)).alloc (.cells #[.int .i64 0] 3)).alloc (.cells #[.int .i64 0] 34)) :
    Below w.heap.size w w1 ∧ Boxed w1 w.heap.size 33 p ∧ Boxed w1 (w.heap.size + 1) 3 (.int .i64 0) ∧ Boxed w1 (w.heap.size + 1 + 1) 34 (.int .i64 0) ∧ w1.heap.size = w.heap.size + 3 := by
  subst hw1
  refine ⟨(((Below.refl _ w).alloc (Nat.le_refl _) _).alloc (by simp) _).alloc (by simp; omega) _, ((Boxed.new w _ _).alloc _).alloc _, ?_, ?_, by simp⟩
  · have := (Boxed.new (w.alloc (.cells #[p] 33)) 3 (.int .i64 0)).alloc (.cells #[.int .i64 0] 34)
    rw [World.size_alloc] at this
    exact this
  · have := Boxed.new ((w.alloc (.cells #[p] 33)).alloc (.cells #[.int .i64 0] 3)) 34 (.int .i64 0)
    rw [World.size_alloc, World.size_alloc] at this
    exact this
theorem box_bel2 {B : Nat} {w w' : World} {b : Nat} {t : TypeId} {v : Value} (h : Boxed w b t v) (hb : Below B w w') (hB : b < B) : Boxed w' b t v := (hb.block _ hB).trans h

set_option maxRecDepth 100000 in
set_option maxHeartbeats 8000000 in
theorem merge_T (S : Nat → Prop) (w : World) (s1 h1 s2 h2 : Nat) (o1 o2 : List Int) (xs ys : List (List Int)) (ha : SetT S w s1 h1 o1 xs) (hb : SetT S w s2 h2 o2 ys) (hne : h1 ≠ h2) (hnew : NewIn S w) (n1 : ¬ S h1) (n2 : ¬ S h2) :
    Calls Try.prog 31 #[.pointer (some ⟨s1, 0, none⟩), .pointer (some ⟨s2, 0, none⟩)] w fun e w' => e = .returned (.tuple #[.int .i64 ((mergeE o1 o2 ys xs).1 : Int), .int .i64 (mergeE o1 o2 ys xs).2.1]) ∧ SetT S w' s1 h1 o1 (mergeE o1 o2 ys xs).2.2 ∧ SetT S w' s2 h2 o2 ys ∧ Keeps (fun b => b = h1) w w' := by
  obtain ⟨w1, hw1⟩ : ∃ w1, w1 = ((w.alloc (.cells #[.pointer (some ⟨s1, 0, none⟩)] 33)).alloc (.cells #[.int .i64 0] 3)).alloc (.cells #[.int .i64 0] 34) := ⟨_, rfl⟩
  obtain ⟨b01, k2, k4, k5, hz1⟩ := merge_start w _ w1 hw1
  have hp := pair_T S w1 s1 h1 s2 h2 o1 o2 xs ys (ha.later b01) (hb.later b01)
  have hl1 := ha.lt
  have hl2 := hb.lt
  refine calls_marks Try.func31 rfl ?_
  simp only [Try.ntmps31, List.size_toArray, List.length_cons, List.length_nil, Nat.reduceAdd, Nat.reduceSub, Array.replicate_succ, Array.replicate_zero, List.push_toArray, List.append_toArray, List.nil_append, List.cons_append]
  have hq1 := k2.cell
  have HS := hide (And.intro ha (And.intro hb (And.intro hnew (And.intro b01 (And.intro k2 (And.intro k4 k5))))))
  clear ha hb hnew b01 k2 k4 k5
  cases hfit : fitB o1 o2 with
  | false =>
    have hpe : pairE o1 o2 = 14 := by rw [pairE, hfit]; rfl
    have hme : mergeE o1 o2 ys xs = (0, 14, xs) := by rw [mergeE, hfit]; rfl
    rw [hpe] at hp
    rw [hme]
    clear hpe hme hfit
    go_wp2_with fail
    rw [← hw1]
    clear hw1
    refine hp.mono ?_
    clear hp
    rintro e w2 ⟨rfl, b2⟩
    have k4 := box_bel2 (unhide HS).2.2.2.2.2.1 b2 (by omega)
    have k5 := box_bel2 (unhide HS).2.2.2.2.2.2 b2 (by omega)
    obtain ⟨b5, e5⟩ : ∃ b, b = w.heap.size + 1 + 1 := ⟨_, rfl⟩
    obtain ⟨b4, e4⟩ : ∃ b, b = w.heap.size + 1 := ⟨_, rfl⟩
    rw [← e5] at k5
    rw [← e4] at k4
    have q4 := k4.cell
    have q5 := k5.cell
    have f4 := k4.frozen
    have f5 := k5.frozen
    have n45 : b4 ≠ b5 := by omega
    have n54 : b5 ≠ b4 := by omega
    have HK := hide (And.intro k4 (And.intro k5 (And.intro b2 (And.intro e4 e5))))
    rw [← e5, ← e4]
    clear k4 k5 b2 e4 e5
    go_wp2_with fail
    obtain ⟨k4, k5, b2, e4, e5⟩ := unhide HK
    have hK4 : Keeps (fun q => q = b4) w2 (w2.setCell ⟨b4, 0, none⟩ (.int .i64 0)) := (Keeps.refl (fun q => q = b4) w2).setCell ⟨b4, 0, none⟩ rfl _
    have hK5 : Keeps (fun q => q = b4 ∨ q = b5) w2 ((w2.setCell ⟨b4, 0, none⟩ (.int .i64 0)).setCell ⟨b5, 0, none⟩ (.int .i64 14)) := (hK4.mono (fun _ e => .inl e)).setCell ⟨b5, 0, none⟩ (.inr rfl) _
    have k4s := (Boxed.set (.int .i64 0) k4)
    have k5s := Boxed.set (.int .i64 14) (hK4.box k5 (by omega))
    have hK45 : Keeps (fun q => q = b5) (w2.setCell ⟨b4, 0, none⟩ (.int .i64 0)) ((w2.setCell ⟨b4, 0, none⟩ (.int .i64 0)).setCell ⟨b5, 0, none⟩ (.int .i64 14)) := (Keeps.refl (fun q => q = b5) _).setCell ⟨b5, 0, none⟩ rfl _
    have k4t := hK45.box k4s (by omega)
    have b02 : Below w.heap.size w w2 := (unhide HS).2.2.2.1.trans (b2.mono (unhide HS).2.2.2.1.size)
    have b03 := b02.trans (hK5.below b02.size (fun b e => by omega))
    refine leaves_marks (base := w.heap.size) (v := .tuple #[.int .i64 0, .int .i64 14]) [] _ List.nodup_nil (fun _ h => by cases h) (fun w' hs => ⟨by simp [results, Try.f31, go_sem, (hs.box k4t).cell, (hs.box k5s).cell], rfl, ?_⟩)
    have b04 := b03.trans (hs.below (Nat.le_refl _) b03.size)
    exact ⟨(unhide HS).1.later b04, (unhide HS).2.1.later b04, Keeps.of_below b04⟩
  | true =>
    have hpe : pairE o1 o2 = 0 := by rw [pairE, hfit]; rfl
    have hme : mergeE o1 o2 ys xs = mergeL o1 ys xs := by rw [mergeE, hfit]; rfl
    rw [hpe] at hp
    rw [hme]
    clear hpe hme hfit
    go_wp2_with fail
    rw [← hw1]
    clear hw1
    refine hp.mono ?_
    clear hp
    rintro e w2 ⟨rfl, b2⟩
    obtain ⟨w3, hw3⟩ : ∃ w3, w3 = w2.alloc (.cells #[.int .i64 0] 3) := ⟨_, rfl⟩
    have b3 : Below w2.heap.size w2 w3 := by rw [hw3]; exact (Below.refl _ w2).alloc (Nat.le_refl _) _
    have k7 : Boxed w3 w2.heap.size 3 (.int .i64 0) := by rw [hw3]; exact Boxed.new w2 _ _
    have hz2 := b2.size
    have hz3 : w3.heap.size = w2.heap.size + 1 := by rw [hw3]; simp
    obtain ⟨ha, hb, hnew, b01, k2, k4, k5⟩ := unhide HS
    have b13 : Below w1.heap.size w1 w3 := b2.trans (b3.mono b2.size)
    have b03 : Below w.heap.size w w3 := b01.trans (b13.mono b01.size)
    obtain ⟨S', hS'⟩ : ∃ S' : Nat → Prop, S' = fun b => S b ∧ b ≠ w.heap.size + 1 ∧ b ≠ w.heap.size + 1 + 1 ∧ b ≠ w2.heap.size := ⟨_, rfl⟩
    have hMg : Mg S' w w3 w.heap.size (w.heap.size + 1) (w.heap.size + 1 + 1) w2.heap.size s1 h1 s2 h2 o1 o2 xs ys 0 0 0 := by
      rw [hS']
      refine ⟨(ha.mono (S' := fun b => S b ∧ b ≠ w.heap.size + 1 ∧ b ≠ w.heap.size + 1 + 1 ∧ b ≠ w2.heap.size) (fun b hb hs => ⟨hs, by omega, by omega, by omega⟩) (fun e => n1 e.1)).later b03, (hb.mono (S' := fun b => S b ∧ b ≠ w.heap.size + 1 ∧ b ≠ w.heap.size + 1 + 1 ∧ b ≠ w2.heap.size) (fun b hb hs => ⟨hs, by omega, by omega, by omega⟩) (fun e => n2 e.1)).later b03, box_bel2 k2 b13 (by omega), box_bel2 k4 b13 (by omega), box_bel2 k5 b13 (by omega), k7, Keeps.of_below b03, hne, ⟨fun e => e.2.1 rfl, fun e => e.2.2.1 rfl, fun e => e.2.2.2 rfl⟩, ⟨Nat.le_refl _, by omega, by omega, by omega⟩, fun e => n1 e.1, fun b hb => ⟨hnew b (by omega), by omega, by omega, by omega⟩, ⟨hl1, hl2⟩⟩
    have hall := all_T S' w3 s2 h2 o2 ys hMg.t2
    obtain ⟨b7, e7⟩ : ∃ b, b = w2.heap.size := ⟨_, rfl⟩
    obtain ⟨b5, e5⟩ : ∃ b, b = w.heap.size + 1 + 1 := ⟨_, rfl⟩
    obtain ⟨b4, e4⟩ : ∃ b, b = w.heap.size + 1 := ⟨_, rfl⟩
    obtain ⟨bb, eb⟩ : ∃ b, b = w.heap.size := ⟨_, rfl⟩
    rw [← e7, ← e5, ← e4, ← eb] at hMg
    have FIN : Hid (∀ (w' : World) (A : List (List Int)) (rv ev nv : Int), Mg S' w w' bb b4 b5 b7 s1 h1 s2 h2 o1 o2 A ys rv ev nv → SetT S w' s1 h1 o1 A ∧ SetT S w' s2 h2 o2 ys ∧ Keeps (fun b => b = h1) w w') := fun w' A rv ev nv hm => by
      have hSS : ∀ b, S' b → S b := fun b h => by rw [hS'] at h; exact h.1
      exact ⟨hm.t1.mono (fun b _ h => hSS b h) n1, hm.t2.mono (fun b _ h => hSS b h) n2, hm.kp⟩
    have HM := hide hMg
    have HE := hide (And.intro e7 (And.intro e5 (And.intro e4 eb)))
    clear hS' hMg k7 b3 b13 b03 ha hb hnew b01 k2 k4 k5 b2
    go_wp2_with fail
    rw [← hw3]
    refine hall.mono ?_
    clear hall
    rintro e w6 ⟨lb6, its, rfl, hg6, hits, hn6, b6'⟩
    have hM6 := (unhide HM).later b6'
    rw [← e7, ← e5, ← e4, ← eb]
    have hW6 : w.heap.size ≤ w6.heap.size := hM6.kp.size
    have hlen : its.length = ys.length := by rw [← hits]; simp
    have hlt6 : h1 < w6.heap.size ∧ b4 < w6.heap.size ∧ b5 < w6.heap.size ∧ b7 < w6.heap.size := ⟨hM6.t1.lt, hM6.k4.lt, hM6.k5.lt, hM6.k7.lt⟩
    have hns := hM6.ns
    have hn1 := hM6.n1
    have HITS := hide (And.intro hits hlen)
    have HM6 := hide hM6
    clear hits hlen b6' hw3 e7 e5 e4 eb HM hz2 hz3 hq1 hz1 hM6
    go_wp2_with fail
    refine (wpIn_wide (n := 6)).1 (wp_rangeH (gf := 41) (lb := lb6) rfl eg_all hg6 (fun _ _ _ _ _ h h2 => h.step h2) (fun b => b = h1 ∨ b = b4 ∨ b = b5 ∨ b = b7) (fun b hb => by omega)
      (fun b hb e => by rcases e with e | e | e | e; exact hn1 (e ▸ hb.1); exact hns.1 (e ▸ hb.1); exact hns.2.1 (e ▸ hb.1); exact hns.2.2 (e ▸ hb.1))
      (fun k O' Wx => (∀ b, O' b ↔ b = h1 ∨ b = b4 ∨ b = b5 ∨ b = b7) ∧ ∃ (n : Nat) (A : List (List Int)), n ≤ k ∧ MAt o1 ys xs k n A ∧ Mg S' w Wx bb b4 b5 b7 s1 h1 s2 h2 o1 o2 A ys 0 0 (n : Int))
      (fun c _ Wx => c = .ret ∧ ∃ (n : Nat) (A : List (List Int)) (ev : Int), mergeL o1 ys xs = (n, ev, A) ∧ Mg S' w Wx bb b4 b5 b7 s1 h1 s2 h2 o1 o2 A ys (n : Int) ev (n : Int))
      (fun k O A B h h2 => ⟨h.1, h.2.imp fun _ q => q.imp fun _ r => ⟨r.1, r.2.1, r.2.2.step h2 hW6⟩⟩) (fun c k A B h h2 => ⟨h.1, h.2.imp fun _ q => q.imp fun _ r => r.imp fun _ t => ⟨t.1, t.2.step h2 hW6⟩⟩)
      ⟨fun _ => Iff.rfl, 0, xs, Nat.le_refl _, MAt.start _ _ _, unhide HM6⟩ ?a1 ?assign ?body ?done ?stop)
    case assign =>
      intro l m v Wx KK hK
      gi_wp2
      exact hK
    case body =>
      intro ll m k' O2 H v Wx hsz hO2 hH hlt hi hy
      obtain ⟨hOO, n, A, hnk, hMA, hMx⟩ := hi
      obtain ⟨y, hyx, hyi, _⟩ := hy
      obtain ⟨hits, hlen⟩ := unhide HITS
      have hky : k' < ys.length := by omega
      have hyA : ys.getD k' [] = y.2 := by
        rw [← hits, List.getD, List.getElem?_map, hyx]; rfl
      have hyb : ys.length ≤ 1024 := hMx.t2.up.2.2.1
      have hBy := up_at hMx.t2.up hky
      have hnx := hMA.next hky
      have hst := hMA.stop hky
      rw [hyA] at hnx hst hBy
      have hin := hMx.ins hyi.ints hBy
      obtain ⟨va, vc, ev, _⟩ := id hyi
      subst ev
      have q2 := hMx.k2.cell
      have hO2b : ∀ b, O2 b → b < Wx.heap.size := fun b hb => (hO2 b hb).2
      generalize y.2.length = yl at hin
      generalize insBL o1 y.2 A = ib at hin hnx
      generalize insEL o1 y.2 A = ie at hin hnx hst
      generalize insTo o1 y.2 A = A2 at hin hnx hst
      have HNX := hide (And.intro hnx (And.intro hst hOO))
      clear hnx hst hyA hyi hyx hits hlen hMA hMx hO2 hH hlt hBy hOO
      gi_wp2
      refine ⟨trivial, fun h => (by cases h), (CallsIn.inRound ll (callsIn_wide.2 hin)).mono ?_⟩
      clear hin
      rintro e w5 ⟨rfl, hM5, hK5⟩
      have q7 := hM5.k7.cell
      have q4 := hM5.k4.cell
      have q5 := hM5.k5.cell
      have f7 := hM5.k7.frozen
      have f4 := hM5.k4.frozen
      have f5 := hM5.k5.frozen
      have n45 : b4 ≠ b5 := by have := hM5.lts; omega
      have n54 : b5 ≠ b4 := by have := hM5.lts; omega
      have hKO : Keeps (fun b => O2 b ∨ H b) Wx w5 := hK5.mono (fun b e => .inl (((unhide HNX).2.2 b).2 (.inl e)))
      have HM5 := hide (And.intro hM5 hKO)
      clear hM5 hK5 hKO
      by_cases hie : ie = 0
      · subst hie
        cases ib with
        | true =>
          gi_wp2
          obtain ⟨hM5, hKO⟩ := unhide HM5
          obtain ⟨hnx, hst, hOO⟩ := unhide HNX
          have hKz := hKO.setCell ⟨b7, 0, none⟩ (.inl ((hOO b7).2 (.inr (.inr (.inr rfl))))) (.int .i64 ((n : Int) + 1))
          exact ⟨⟨O2, ⟨hOO, n + 1, A2, by omega, hnx trivial, by rw [Int.natCast_add]; exact hM5.set7 _⟩, fun b hb => ⟨.inl hb, Nat.lt_of_lt_of_le (hO2b b hb) hKz.size⟩⟩, hKz⟩
        | false =>
          gi_wp2
          obtain ⟨hM5, hKO⟩ := unhide HM5
          obtain ⟨hnx, hst, hOO⟩ := unhide HNX
          exact ⟨⟨O2, ⟨hOO, n, A2, by omega, hnx trivial, hM5⟩, fun b hb => ⟨.inl hb, Nat.lt_of_lt_of_le (hO2b b hb) hKO.size⟩⟩, hKO⟩
      · have hie2 : (ie != 0) = true := by simpa using hie
        have HIE := hide hie
        clear hie
        gi_wp2
        obtain ⟨hM5, hKO⟩ := unhide HM5
        obtain ⟨hnx, hst, hOO⟩ := unhide HNX
        have hKz := (hKO.setCell ⟨b4, 0, none⟩ (.inl ((hOO b4).2 (.inr (.inl rfl)))) (.int .i64 (n : Int))).setCell ⟨b5, 0, none⟩ (.inl ((hOO b5).2 (.inr (.inr (.inl rfl))))) (.int .i64 ie)
        exact ⟨⟨rfl, n, A2, ie, hst (unhide HIE), (hM5.set4 _).set5 _⟩, hKz.mono (fun b e => e.imp id .inl)⟩
    case done =>
      rintro D O2 Wx hD hO2 ⟨hOO, n, A, hnk, hMA, hMx⟩ hDx
      rw [(unhide HITS).2] at hMA
      have hE := hMA.end
      have q7 := hMx.k7.cell
      have q4 := hMx.k4.cell
      have q5 := hMx.k5.cell
      have f4 := hMx.k4.frozen
      have f5 := hMx.k5.frozen
      have n45 : b4 ≠ b5 := by have := hMx.lts; omega
      have n54 : b5 ≠ b4 := by have := hMx.lts; omega
      have HX := hide (And.intro hE (And.intro hMx (And.intro hD hDx)))
      clear hE hMx hMA hOO hO2 hD hDx hnk hg6 hn6 hlt6 hns hn1 hW6
      go_wp2_with fail
      obtain ⟨hE, hMx, hD, hDx⟩ := unhide HX
      have hMz := (hMx.set4 (n : Int)).set5 0
      have hK : Keeps (fun q => q = b4 ∨ q = b5) Wx ((Wx.setCell ⟨b4, 0, none⟩ (.int .i64 (n : Int))).setCell ⟨b5, 0, none⟩ (.int .i64 0)) := ((Keeps.refl (fun q => q = b4 ∨ q = b5) Wx).setCell ⟨b4, 0, none⟩ (.inl rfl) _).setCell ⟨b5, 0, none⟩ (.inr rfl) _
      have hDn : ¬ (D = b4 ∨ D = b5) := fun e => by
        have := (unhide HM6).k4.lt
        have := (unhide HM6).k5.lt
        omega
      refine leaves_marks (base := w.heap.size) (v := .tuple #[.int .i64 (n : Int), .int .i64 0]) [D] _ (by simp) (fun E hE => ?_) (fun w' hs => ⟨by simp [results, Try.f31, go_sem, (hs.box hMz.k4).cell, (hs.box hMz.k5).cell], by rw [hE], ?_⟩)
      · have e : E = D := by simpa using hE
        rw [e]
        exact ⟨by have := (unhide HM6).kp.size; omega, hK.same _ _ hDx hDn⟩
      · have hMw := hMz.step hs (Nat.le_refl _)
        rw [hE]
        exact unhide FIN w' A n 0 n hMw
    case stop =>
      rintro D cc k' Wx hD hk' ⟨rfl, n, A, ev, hE, hMx⟩ hDx
      have HX := hide (And.intro hE (And.intro hMx (And.intro hD hDx)))
      clear hE hMx hD hDx hg6 hn6 hlt6 hns hn1 hW6
      refine wpIn_wide.2 ?_
      go_wp2_with fail
      obtain ⟨hE, hMx, hD, hDx⟩ := unhide HX
      refine leaves_marks (base := w.heap.size) (v := .tuple #[.int .i64 (n : Int), .int .i64 ev]) [D] _ (by simp) (fun E hE => ?_) (fun w' hs => ⟨by simp [results, Try.f31, go_sem, (hs.box hMx.k4).cell, (hs.box hMx.k5).cell], by rw [hE], ?_⟩)
      · have e : E = D := by simpa using hE
        rw [e]
        exact ⟨by have := (unhide HM6).kp.size; omega, hDx⟩
      · have hMw := hMx.step hs (Nat.le_refl _)
        rw [hE]
        exact unhide FIN w' A n ev n hMw
end Go.Proofs.Ytmjlhmhkbfnccaa

namespace Go.Proofs.Ytmjlhmhkbfnccaa
open Go.RowKit Go.Shelf

theorem set3 {w : World} {b : Nat} {x y z x' y' z' : Value} {t : TypeId} {f : Nat × Nat} (h : w.heap[b]? = some (.cells #[x', y', z'] t f)) : (((w.setCell ⟨b, 0, none⟩ x).setCell ⟨b, 1, none⟩ y).setCell ⟨b, 2, none⟩ z).heap[b]? = some (.cells #[x, y, z] t f) := set_heap (set_heap (set_heap h 0 x) 1 y) 2 z
theorem keep3 (w : World) (b : Nat) (x y z : Value) : Keeps (fun q => q = b) w (((w.setCell ⟨b, 0, none⟩ x).setCell ⟨b, 1, none⟩ y).setCell ⟨b, 2, none⟩ z) := (((Keeps.refl (fun q => q = b) w).setCell ⟨b, 0, none⟩ rfl _).setCell ⟨b, 1, none⟩ rfl _).setCell ⟨b, 2, none⟩ rfl _

set_option maxRecDepth 100000 in
set_option maxHeartbeats 8000000 in
theorem swap_T (S : Nat → Prop) (w : World) (s1 h1 s2 h2 : Nat) (o1 o2 : List Int) (xs ys : List (List Int)) (ha : SetT S w s1 h1 o1 xs) (hb : SetT S w s2 h2 o2 ys) (hne : h1 ≠ h2) :
    Calls Try.prog 33 #[.pointer (some ⟨s1, 0, none⟩), .pointer (some ⟨s2, 0, none⟩)] w fun e w' => e = .returned (.int .i64 (pairE o1 o2)) ∧ (fitB o1 o2 = true → SetT S w' s1 h1 o2 ys ∧ SetT S w' s2 h2 o1 xs) ∧ (fitB o1 o2 = false → SetT S w' s1 h1 o1 xs ∧ SetT S w' s2 h2 o2 ys) ∧ Keeps (fun b => b = h1 ∨ b = h2) w w' := by
  have hp := pair_T S w s1 h1 s2 h2 o1 o2 xs ys ha hb
  have mixed : Try.prog.follows .mixedOrders = true := by kernel_rfl
  cases hfit : fitB o1 o2 with
  | false =>
    have hpe : pairE o1 o2 = 14 := by rw [pairE, hfit]; rfl
    rw [hpe] at hp ⊢
    have HS := hide (And.intro ha hb)
    clear ha hb hpe hfit
    go_enter Try.func33, Try.ntmps33
    go_wp2_with fail
    refine hp.mono ?_
    clear hp
    rintro e w2 ⟨rfl, b2⟩
    have HB := hide b2
    clear b2
    go_wp2_with fail
    go_ret
    exact ⟨rfl, fun h => (by cases h), fun _ => ⟨(unhide HS).1.later (unhide HB), (unhide HS).2.later (unhide HB)⟩, Keeps.of_below (unhide HB)⟩
  | true =>
    have hpe : pairE o1 o2 = 0 := by rw [pairE, hfit]; rfl
    rw [hpe] at hp ⊢
    have HS := hide (And.intro ha hb)
    clear ha hb hpe hfit
    go_enter Try.func33, Try.ntmps33
    go_wp2_with fail
    refine hp.mono ?_
    clear hp
    rintro e w2 ⟨rfl, b2⟩
    obtain ⟨l1, hA, B1, e1⟩ := (unhide HS).1.later b2
    obtain ⟨l2, hB, B2, e2⟩ := (unhide HS).2.later b2
    obtain ⟨ov1, p1, d1, hh1, hov1, ht1⟩ := hA.held
    obtain ⟨ov2, p2, d2, hh2, hov2, ht2⟩ := hB.held
    obtain ⟨oa1, oc1, rfl, _⟩ := id hov1
    obtain ⟨oa2, oc2, rfl, _⟩ := id hov2
    obtain ⟨c0, c1, c2, f0, f1, f2⟩ := three_cells hh1
    obtain ⟨u0, u1, u2, g0, g1, g2⟩ := three_cells hh2
    have t0 := hA.s0
    have v0 := hB.s0
    have hn2 : h2 ≠ h1 := fun e => hne e.symm
    have DONE : Hid (∀ w3 : World, w3.heap[h1]? = some (.cells #[.slice oa2 o2.length oc2, .pointer p2, .int .i64 (l2.length : Int)] 80 (0, 0)) → w3.heap[h2]? = some (.cells #[.slice oa1 o1.length oc1, .pointer p1, .int .i64 (l1.length : Int)] 80 (0, 0)) → Keeps (fun b => b = h1 ∨ b = h2) w2 w3 → (SetT S w3 s1 h1 o2 ys ∧ SetT S w3 s2 h2 o1 xs) ∧ Keeps (fun b => b = h1 ∨ b = h2) w w3) := fun w3 z1 z2 hk => by
      have hst : Stays S w2 w3 := hk.stays (fun b _ hs e => by rcases e with e | e; exact hA.ns (e ▸ hs); exact hB.ns (e ▸ hs))
      exact ⟨⟨⟨l2, ⟨hst.cell hA.s0 hA.ss, hA.ss, ⟨_, p2, d2, z1, hov2.stays hst, ht2.stays hst⟩, hA.ns, hB.ok, hB.rises, hB.len⟩, B2, e2⟩, ⟨l1, ⟨hst.cell hB.s0 hB.ss, hB.ss, ⟨_, p1, d1, z2, hov1.stays hst, ht1.stays hst⟩, hB.ns, hA.ok, hA.rises, hA.len⟩, B1, e1⟩⟩, (Keeps.of_below b2).trans hk (fun _ _ e => e)⟩
    have HHH := hide (And.intro hh1 hh2)
    clear hA hB hov1 hov2 ht1 ht2 B1 B2 e1 e2 hh1 hh2 b2
    go_wp2_with fail
    go_region
    all_goals
      go_wp2_with fail
      go_ret
      obtain ⟨hh1, hh2⟩ := unhide HHH
      have z1 := set3 (x := .slice oa2 o2.length oc2) (y := .pointer p2) (z := .int .i64 (l2.length : Int)) hh1
      have k1 := keep3 w2 h1 (.slice oa2 o2.length oc2) (.pointer p2) (.int .i64 (l2.length : Int))
      have z2 := set3 (x := .slice oa1 o1.length oc1) (y := .pointer p1) (z := .int .i64 (l1.length : Int)) (k1.same _ _ hh2 hn2)
      have k2 := keep3 (((w2.setCell ⟨h1, 0, none⟩ (.slice oa2 o2.length oc2)).setCell ⟨h1, 1, none⟩ (.pointer p2)).setCell ⟨h1, 2, none⟩ (.int .i64 (l2.length : Int))) h2 (.slice oa1 o1.length oc1) (.pointer p1) (.int .i64 (l1.length : Int))
      have hd := unhide DONE _ (k2.same _ _ z1 hne) z2 ((k1.mono (fun _ e => .inl e)).trans (k2.mono (fun _ e => .inr e)) (fun _ _ e => e))
      have hd2 := And.intro (hd.1.1.step (Step.drew 0 _)) (And.intro (hd.1.2.step (Step.drew 0 _)) hd.2.drew)
      exact ⟨rfl, fun _ => ⟨hd2.1, hd2.2.1⟩, fun h => (by cases h), hd2.2.2⟩
end Go.Proofs.Ytmjlhmhkbfnccaa
