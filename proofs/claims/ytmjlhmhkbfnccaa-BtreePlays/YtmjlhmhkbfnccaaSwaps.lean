/- Swap: two sets change places. -/
import Derived.Test.YtmjlhmhkbfnccaaPairs
import Derived.Test.YtmjlhmhkbfnccaaMerges
import Derived.BigRegion
namespace Go.Proofs.Ytmjlhmhkbfnccaa
open Go.RowKit Go.Shelf

theorem set3 {w : World} {b : Nat} {x y z x' y' z' : Value} {t : TypeId} {f : Nat × Nat} (h : w.heap[b]? = some (.cells #[x', y', z'] t f)) : (((w.setCell ⟨b, 0, none⟩ x).setCell ⟨b, 1, none⟩ y).setCell ⟨b, 2, none⟩ z).heap[b]? = some (.cells #[x, y, z] t f) := set_heap (set_heap (set_heap h 0 x) 1 y) 2 z
theorem keep3 (w : World) (b : Nat) (x y z : Value) : Keeps (fun q => q = b) w (((w.setCell ⟨b, 0, none⟩ x).setCell ⟨b, 1, none⟩ y).setCell ⟨b, 2, none⟩ z) := (((Keeps.refl (fun q => q = b) w).setCell ⟨b, 0, none⟩ rfl _).setCell ⟨b, 1, none⟩ rfl _).setCell ⟨b, 2, none⟩ rfl _

set_option maxRecDepth 100000 in
set_option maxHeartbeats 8000000 in
theorem swap_T (S : Nat → Prop) (w : World) (s1 h1 s2 h2 : Nat) (o1 o2 : List Int) (xs ys : List (List Int)) (ha : SetT S w s1 h1 o1 xs) (hb : SetT S w s2 h2 o2 ys) (hne : h1 ≠ h2) :
    Calls Try.prog 33 #[.pointer (some ⟨s1, 0, none⟩), .pointer (some ⟨s2, 0, none⟩)] w fun e w' => e = .returned (.int .i64 (pairE o1 o2)) ∧ (fitB o1 o2 = true → SetT S w' s1 h1 o2 ys ∧ SetT S w' s2 h2 o1 xs) ∧ (fitB o1 o2 = false → SetT S w' s1 h1 o1 xs ∧ SetT S w' s2 h2 o2 ys) ∧ Keeps (fun b => b = h1 ∨ b = h2) w w' := by
  have hp := pair_T S w s1 h1 s2 h2 o1 o2 xs ys ha hb
  have mixed : Try.prog.follows .mixedOrders = true := by kernel_rfl
  cases hfit : fitB o1 o2 with
  | false =>
    have hpe : pairE o1 o2 = 14 := by rw [pairE, hfit]; rfl
    rw [hpe] at hp ⊢
    have HS := hide (And.intro ha hb)
    clear ha hb hpe hfit
    go_enter Try.func33, Try.ntmps33
    go_wp2_with fail
    refine hp.mono ?_
    clear hp
    rintro e w2 ⟨rfl, b2⟩
    have HB := hide b2
    clear b2
    go_wp2_with fail
    go_ret
    exact ⟨rfl, fun h => (by cases h), fun _ => ⟨(unhide HS).1.later (unhide HB), (unhide HS).2.later (unhide HB)⟩, Keeps.of_below (unhide HB)⟩
  | true =>
    have hpe : pairE o1 o2 = 0 := by rw [pairE, hfit]; rfl
    rw [hpe] at hp ⊢
    have HS := hide (And.intro ha hb)
    clear ha hb hpe hfit
    go_enter Try.func33, Try.ntmps33
    go_wp2_with fail
    refine hp.mono ?_
    clear hp
    rintro e w2 ⟨rfl, b2⟩
    obtain ⟨l1, hA, B1, e1⟩ := (unhide HS).1.later b2
    obtain ⟨l2, hB, B2, e2⟩ := (unhide HS).2.later b2
    obtain ⟨ov1, p1, d1, hh1, hov1, ht1⟩ := hA.held
    obtain ⟨ov2, p2, d2, hh2, hov2, ht2⟩ := hB.held
    obtain ⟨oa1, oc1, rfl, _⟩ := id hov1
    obtain ⟨oa2, oc2, rfl, _⟩ := id hov2
    obtain ⟨c0, c1, c2, f0, f1, f2⟩ := three_cells hh1
    obtain ⟨u0, u1, u2, g0, g1, g2⟩ := three_cells hh2
    have t0 := hA.s0
    have v0 := hB.s0
    have hn2 : h2 ≠ h1 := fun e => hne e.symm
    have DONE : Hid (∀ w3 : World, w3.heap[h1]? = some (.cells #[.slice oa2 o2.length oc2, .pointer p2, .int .i64 (l2.length : Int)] 80 (0, 0)) → w3.heap[h2]? = some (.cells #[.slice oa1 o1.length oc1, .pointer p1, .int .i64 (l1.length : Int)] 80 (0, 0)) → Keeps (fun b => b = h1 ∨ b = h2) w2 w3 → (SetT S w3 s1 h1 o2 ys ∧ SetT S w3 s2 h2 o1 xs) ∧ Keeps (fun b => b = h1 ∨ b = h2) w w3) := fun w3 z1 z2 hk => by
      have hst : Stays S w2 w3 := hk.stays (fun b _ hs e => by rcases e with e | e; exact hA.ns (e ▸ hs); exact hB.ns (e ▸ hs))
      exact ⟨⟨⟨l2, ⟨hst.cell hA.s0 hA.ss, hA.ss, ⟨_, p2, d2, z1, hov2.stays hst, ht2.stays hst⟩, hA.ns, hB.ok, hB.rises, hB.len⟩, B2, e2⟩, ⟨l1, ⟨hst.cell hB.s0 hB.ss, hB.ss, ⟨_, p1, d1, z2, hov1.stays hst, ht1.stays hst⟩, hB.ns, hA.ok, hA.rises, hA.len⟩, B1, e1⟩⟩, (Keeps.of_below b2).trans hk (fun _ _ e => e)⟩
    have HHH := hide (And.intro hh1 hh2)
    clear hA hB hov1 hov2 ht1 ht2 B1 B2 e1 e2 hh1 hh2 b2
    go_wp2_with fail
    go_region
    all_goals
      go_wp2_with fail
      go_ret
      obtain ⟨hh1, hh2⟩ := unhide HHH
      have z1 := set3 (x := .slice oa2 o2.length oc2) (y := .pointer p2) (z := .int .i64 (l2.length : Int)) hh1
      have k1 := keep3 w2 h1 (.slice oa2 o2.length oc2) (.pointer p2) (.int .i64 (l2.length : Int))
      have z2 := set3 (x := .slice oa1 o1.length oc1) (y := .pointer p1) (z := .int .i64 (l1.length : Int)) (k1.same _ _ hh2 hn2)
      have k2 := keep3 (((w2.setCell ⟨h1, 0, none⟩ (.slice oa2 o2.length oc2)).setCell ⟨h1, 1, none⟩ (.pointer p2)).setCell ⟨h1, 2, none⟩ (.int .i64 (l2.length : Int))) h2 (.slice oa1 o1.length oc1) (.pointer p1) (.int .i64 (l1.length : Int))
      have hd := unhide DONE _ (k2.same _ _ z1 hne) z2 ((k1.mono (fun _ e => .inl e)).trans (k2.mono (fun _ e => .inr e)) (fun _ _ e => e))
      have hd2 := And.intro (hd.1.1.step (Step.drew 0 _)) (And.intro (hd.1.2.step (Step.drew 0 _)) hd.2.drew)
      exact ⟨rfl, fun _ => ⟨hd2.1, hd2.2.1⟩, fun h => (by cases h), hd2.2.2⟩
end Go.Proofs.Ytmjlhmhkbfnccaa
