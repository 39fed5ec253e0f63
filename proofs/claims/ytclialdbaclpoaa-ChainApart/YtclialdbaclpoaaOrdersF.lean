/- The walk of Orders. -/
import Derived.Test.YtclialdbaclpoaaOrders
namespace Go.Proofs.Ytclialdbaclpoaa
open Go.RowKit Go.Shelf Go.Maps

theorem RowTo.growL {wd N : Nat} {w : World} {pv : Value} {l : List Int} {f ab be : Nat → Int} {s : Nat} {rl : List Nat} {p : Int} (h : RowTo N f ab s rl p) (hp : Prs w pv l N f ab be) (hl : ∀ x ∈ l, 0 ≤ x ∧ x < ((2 ^ wd : Nat) : Int)) : GrowL wd (rl.map f) := by
  refine ⟨fun x hx => ?_, ?_⟩
  · obtain ⟨i, hi, rfl⟩ := List.mem_map.1 hx
    rcases (hp.all (f i)).1 (mem_vals.2 ⟨i, h.mem i hi, rfl⟩) with e | e
    · have : 1 ≤ 2 ^ wd := Nat.one_le_two_pow
      omega
    · exact hl _ e
  · rw [List.pairwise_map]
    exact h.grow
set_option maxRecDepth 100000 in
set_option maxHeartbeats 8000000 in
theorem orders_ok (w : World) (wd : Nat) (v : Value) (l : List Int) (h : Ints w.heap.size w v l) (hw : wd ≤ 8) (hl : lookE wd l = 0) :
    Calls Try.prog 12 #[.int .i64 (wd : Int), v] w fun e w' => ∃ r os, e = .returned (.tuple #[r, .int .i64 0]) ∧ OL w.heap.size w' r os ∧ IsLeast l os.length ∧ (∀ o ∈ os, right o = true ∧ o.length = wd) ∧ (∀ x ∈ l, ∃ o ∈ os, coverB o x = true) ∧ Below w.heap.size w w' := by
  have hlk := look_any w.heap.size w v l h wd hw
  rw [hl] at hlk
  obtain ⟨z1, z2, z3⟩ := look_zero hl hw
  have hpa := paired_any w v l h z1 z3
  obtain ⟨va, vc, rfl, _⟩ := id h
  have hw0 : ¬ ((wd : Int) < 0) := by omega
  have hw8 : ¬ ((8 : Int) < (wd : Int)) := by omega
  have HL := hide z2
  clear h hl z3 z2
  go_enter Try.func12, Try.ntmps12
  go_wp2_with fail
  refine hlk.mono ?_
  clear hlk
  rintro e w' ⟨rfl, hw'⟩
  subst hw'
  go_wp2_with fail
  refine hpa.mono ?_
  clear hpa
  rintro e w1 ⟨pv, N, f, ab, be, rfl, hp, b1⟩
  have HP := hide (And.intro hp b1)
  obtain ⟨sb, sc, a, ac, b, bc, rfl, _⟩ := hp.mem
  have hs1 := b1.size
  obtain ⟨b2, hnw, hs2⟩ := box3 w1 (.slice (some ⟨sb, 0, none⟩) N sc) (.slice (some ⟨a, 0, none⟩) N ac) (.slice (some ⟨b, 0, none⟩) N bc) 44
  obtain ⟨w2, hw2⟩ : ∃ w2, w2 = w1.alloc (.cells #[.slice (some ⟨sb, 0, none⟩) N sc, .slice (some ⟨a, 0, none⟩) N ac, .slice (some ⟨b, 0, none⟩) N bc] 44) := ⟨_, rfl⟩
  rw [← hw2] at b2 hnw hs2
  have hp2 := hp.later b2
  have hfs := firsts_any w2 _ l N f ab be hp2
  obtain ⟨c0, c1, c2, _⟩ := three_cells hnw
  have HP2 := hide (And.intro hp2 b2)
  clear hp b1 hp2 b2
  go_wp2_with fail
  rw [← hw2]
  clear hw2
  go_wp2_with fail
  refine hfs.mono ?_
  clear hfs
  rintro e w3 ⟨r, rfl, hown, b3⟩
  have hs3 := b3.size
  have hlen := hown.lenOf
  rw [toI_len] at hlen
  have hob := hown.block
  obtain ⟨ra, rn, rc, er⟩ : ∃ ra rn rc, r = .slice ra rn rc := by
    rcases hown.2 with ⟨e, _⟩ | ⟨g, cap, cur, e, _⟩
    · exact ⟨_, _, _, e⟩
    · exact ⟨_, _, _, e⟩
  have hnw3 := (b3.block _ (by omega)).trans hnw
  have HS : Hid (OrR wd N f ab be w3.heap.size w3 (.slice none 0 0) (.int .i64 0) w3) := ⟨0, [], Nat.zero_le _, rfl, rfl, OL.nil _ _, fun j hj => by omega, Below.refl _ _⟩
  have HE := hide (And.intro hown (And.intro hnw3 (And.intro ((unhide HP2).1.later b3) (((unhide HP).2.trans ((unhide HP2).2.mono hs1)).trans (b3.mono (by omega))))))
  subst er
  have hrn : rn = (firstsL N be).length := hlen
  have hfl := firstsL_le N be
  have hN2 := (unhide HP).1.n2
  obtain ⟨F, hF⟩ : ∃ F, F = (firstsL N be).length := ⟨_, rfl⟩
  rw [← hF] at hrn hfl
  subst hrn
  have HF := hide hF
  clear hown b3 hnw hlen hob hnw3 c0 c1 c2 hF
  go_wp2_with fail
  obtain ⟨P1, hP1⟩ : ∃ P1, P1 = w1.heap.size := ⟨_, rfl⟩
  have HP1 := hide hP1
  rw [← hP1] at HE hs1 hs2 ⊢
  clear hP1
  go_loopw [8, 28] (fun ov i wr => OrR wd N f ab be w3.heap.size w3 ov i wr) (fun _ i _ => rn - (intOf i).toNat)
  case atStart => exact unhide HS
  case round =>
    obtain ⟨k, os, hk, rfl, hol, hOL, hsv, hbl⟩ := hrel
    obtain ⟨hown, hnw3, hp3, b03⟩ := unhide HE
    rw [← unhide HF] at hk
    obtain ⟨oa, on, oc, eo⟩ : ∃ oa on oc, u8 = .slice oa on oc := by
      obtain ⟨vs, h1, _⟩ := hOL
      rcases h1.2 with ⟨e, _⟩ | ⟨g, cap, cur, e, _⟩
      · exact ⟨_, _, _, e⟩
      · exact ⟨_, _, _, e⟩
    by_cases hkN : k < rn
    · have hkF : k < (firstsL N be).length := by have := unhide HF; omega
      obtain ⟨g, hra⟩ : ∃ g, ra = some ⟨g, 0, none⟩ := by
        obtain ⟨g, gc, eg, _⟩ := hown.shape (fun e => by have := congrArg List.length e; rw [toI_len] at this; simp at this; rw [this] at hkF; simp at hkF)
        simp only [Value.slice.injEq] at eg
        exact ⟨g, eg.1⟩
      subst hra
      have hcell := (hown.keeps (O := fun _ => False) (Keeps.of_below hbl) (fun _ _ e => e)).cell (j := k) (by rw [toI_len]; exact hkF)
      obtain ⟨s, hs⟩ : ∃ s, s = (firstsL N be)[k] := ⟨_, rfl⟩
      have e1 : (toI (firstsL N be))[k]'(by rw [toI_len]; exact hkF) = (s : Int) := by rw [hs]; simp [toI]
      rw [e1] at hcell
      have hmem := mem_firstsL.1 (hs ▸ List.getElem_mem hkF : s ∈ firstsL N be)
      obtain ⟨x0, _⟩ := hcell
      obtain ⟨c0, c1, c2, _⟩ := three_cells ((hbl.block _ (by omega)).trans hnw3)
      have hfr := from_any wr _ l N f ab be (hp3.later hbl) s hmem.1
      have HI := hide (And.intro hol (And.intro hOL (And.intro hsv (And.intro hbl (And.intro hs e1)))))
      have hws := hbl.size
      subst eo
      clear hol hOL hsv hbl hown hnw3 hp3 b03 hs e1 hmem
      go_wp2_with fail
      refine hfr.mono ?_
      clear hfr
      rintro e w5 ⟨rv, rl, rfl, hown5, hrow5, hln5, b5⟩
      have hs5 := b5.size
      have hp := (unhide HP).1
      have hoo := orderOf_any wr.heap.size w5 wd rv (rl.map f) hw hown5 (hrow5.growL hp (unhide HL)) (by rw [List.length_map]; omega) hs5
      have hob5 := hown5.block
      have HI5 := hide (And.intro hrow5 (And.intro b5 hob5))
      obtain ⟨ra5, rn5, rc5, er5⟩ : ∃ ra rn rc, rv = .slice ra rn rc := by
        rcases hown5.2 with ⟨e, _⟩ | ⟨g, cap, cur, e, _⟩
        · exact ⟨_, _, _, e⟩
        · exact ⟨_, _, _, e⟩
      subst er5
      clear hown5 hrow5 b5 hp hob5
      go_wp2_with fail
      refine hoo.mono ?_
      clear hoo
      rintro e w6 ⟨ru, o, rfl, hown6, hserv, hK6⟩
      obtain ⟨hrow5, b5, hob5⟩ := unhide HI5
      obtain ⟨hol, hOL, hsv, hbl, hs, e1⟩ := unhide HI
      have b6 : Below wr.heap.size wr w6 := b5.trans (hK6.below hs5 (fun b e => (hob5 b e).1))
      have hs6 := b6.size
      have hOL6 := hOL.keeps (O := fun _ => False) (Keeps.of_below b6) (fun _ _ e => e)
      have hown6' : OwnI w3.heap.size w6 ru o := hown6.base (by omega)
      have hru : ru.oneCell' = true := by
        rcases hown6.2 with ⟨e, _⟩ | ⟨g, cap, cur, e, _⟩
        · rw [e]; rfl
        · rw [e]; rfl
      have hobu := hown6.block
      have hlt : ∀ b, some b = (Value.slice oa on oc).ownBlock → b < wr.heap.size := fun b hb => by
        obtain ⟨vs, h1, _⟩ := hOL
        exact (h1.lt b hb.symm).2
      obtain ⟨vs, hvs, hel⟩ := id hOL6
      obtain ⟨r7, w7, hrun7, hrow7, hK7, hr7⟩ := appT1_run w6 _ ru os.length vs hvs hru (by omega) (by omega)
      have hOL7 : OL w3.heap.size w7 r7 (os ++ [o]) := hOL6.snoc hown6' (fun b hb e => by have := (hobu b hb).1; have := hlt b e; omega) (fun vs' h' => by
        obtain ⟨r8, w8, hrun8, hrow8, _, _⟩ := appT1_run w6 _ ru os.length vs' h' hru (by omega) (by omega)
        rw [hrun7] at hrun8
        cases hrun8
        exact hrow8) hK7 hr7
      have b7 : Below w3.heap.size w3 w7 := (hbl.trans (b6.mono hws)).trans (hK7.below (by omega) (fun b e => (hvs.lt b e.symm).1))
      have HN : Hid (OrR wd N f ab be w3.heap.size w3 r7 (.int .i64 ((k + 1 : Nat) : Int)) w7) := by
        refine ⟨k + 1, os ++ [o], by have := unhide HF; omega, rfl, by simp [hol], hOL7, fun j hj => ?_, b7⟩
        by_cases e : j < k
        · obtain ⟨rl', r1, r2⟩ := hsv j e
          refine ⟨rl', r1, ?_⟩
          rw [List.getD, List.getElem?_append_left (by omega)]
          exact r2
        · have ej : j = k := by omega
          subst ej
          refine ⟨rl, ?_, ?_⟩
          · have : (firstsL N be).getD j 0 = s := by rw [hs, List.getD, List.getElem?_eq_getElem hkF]; rfl
            rw [this]; exact hrow5
          · rw [List.getD, List.getElem?_append_right (by omega), hol, Nat.sub_self]
            exact hserv
      have HRUN7 := hide hrun7
      obtain ⟨ra6, rn6, rc6, er6⟩ : ∃ ra rn rc, ru = .slice ra rn rc := by
        rcases hown6.2 with ⟨e, _⟩ | ⟨g, cap, cur, e, _⟩
        · exact ⟨_, _, _, e⟩
        · exact ⟨_, _, _, e⟩
      subst er6
      clear hown6 hserv hK6 hrow5 b5 hob5 hol hOL hsv hbl hs e1 b6 hOL6 hown6' hru hobu hlt hvs hel hrun7 hrow7 hK7 hr7 hOL7 b7
      go_wp2_with (at_builtin; refine wpList_append_run _ rfl _ _ 30 rfl _ _ rfl rfl _ _ (unhide HRUN7) ?_)
      go_roundw
      case rel =>
        have := unhide HN
        rw [Int.natCast_add] at this
        exact this
      case measure => simp [intOf]; omega
    · have hkN2 : k = rn := by omega
      have HI := hide (And.intro hol (And.intro hOL (And.intro hsv (And.intro hbl hkN2))))
      subst eo
      clear hol hOL hsv hbl hown hnw3 hp3 b03 hkN2
      go_wp2_with fail
      go_ret2
      obtain ⟨hol, hOL, hsv, hbl, hkN2⟩ := unhide HI
      obtain ⟨_, _, hp3, b03⟩ := unhide HE
      have hF := unhide HF
      obtain ⟨s1, s2⟩ := orders_serve (os := os) hp3 (by omega) (fun j hj => hsv j (by omega))
      have hb0 := b03.size
      refine ⟨_, os, rfl, ?_, ?_, s1, s2, b03.trans (hbl.mono hb0)⟩
      · obtain ⟨vs, h1, h2⟩ := hOL
        refine ⟨vs, ⟨h1.1, ?_⟩, fun j hj => ?_⟩
        · rcases h1.2 with h | ⟨g, cap, cur, q1, q2, q3⟩
          · exact .inl h
          · exact .inr ⟨g, cap, cur, q1, by omega, q3⟩
        · obtain ⟨u, u1, u2, u3⟩ := h2 j hj
          exact ⟨u, u1, u2.base hb0, u3⟩
      · rw [hol, hkN2, hF]
        exact hp3.rows
end Go.Proofs.Ytclialdbaclpoaa
