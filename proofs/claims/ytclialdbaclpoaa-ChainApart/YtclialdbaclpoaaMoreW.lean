/- The walk of ChainMore. -/
import Derived.Test.YtclialdbaclpoaaAlive
namespace Go.Proofs.Ytclialdbaclpoaa
open Go.RowKit Go.Shelf Go.Maps

theorem app1_big {base : Nat} (w : World) (v : Value) (l : List Int) (x : Int) (h : OwnI base w v l) (hb : base ≤ w.heap.size) (hn : (l.length + 1) * 8 ≤ 140737488355328) :
    ∃ r w', (Builtin.append_ #[22, 22] 22 #[v, .slice (some ⟨w.heap.size, 0, none⟩) 1 1]).run Try.prog (w.alloc (.cells #[.int .i64 x] 3)) = .ok r w' ∧ OwnI base w' r (l ++ [x]) ∧ Keeps (fun b => some b = v.ownBlock) w w' := by
  obtain ⟨i, h1, h2, h3, h4⟩ := infoI
  have ht : Try.prog.underlying 22 = some (.slice 3) := by kernel_rfl
  obtain ⟨r, w', hr, ho, hg, _, hat⟩ := run_append_own_at (P := Try.prog) (w.alloc (.cells #[.int .i64 x] 3)) base 22 22 3 i (.int .i64 0) 1 8 ht h1 h2 h3 h4 rfl (by decide) v l.length (l.map (Value.int .i64)) (World.ownsRow.alloc h _) ⟨w.heap.size, 0, none⟩ 1 1 [.int .i64 x] rfl (fun j u hj => by
    cases j with
    | zero =>
      simp only [List.getElem?_cons_zero, Option.some.injEq] at hj
      subst hj
      rw [Addr.add_lit]
      exact (cell_at (World.alloc_heap_new _ _) _).trans rfl
    | succ j => simp at hj) (fun u hu => by simp at hu; subst hu; rfl) (by unfold maxLen; omega) hn (by simp; omega)
  refine ⟨r, w', hr, ?_, ((Keeps.refl _ w).alloc _).trans (keeps_grown (O := fun b => some b = v.ownBlock) hg (fun b hb => hb)) (fun _ _ e => e)⟩
  unfold OwnI
  simpa using ho
theorem look_more {l : List Int} {one : Int} {wd : Nat} (h : lookE wd l ≠ 0) : lookE wd (l ++ [one]) ≠ 0 := by
  unfold lookE at h ⊢
  rw [List.length_append]
  by_cases h1 : l.length ≤ 256
  · rw [if_pos h1] at h
    by_cases h2 : l.all (okB wd) = true
    · rw [if_pos h2] at h; exact absurd rfl h
    · have h3 : ¬ (l ++ [one]).all (okB wd) = true := fun g => by rw [List.all_append, Bool.and_eq_true] at g; exact h2 g.1
      rw [if_neg h3]
      split <;> simp
  · rw [if_neg (by simp; omega)]
    simp
theorem IsLeast.pos {l : List Int} {n : Nat} (h : IsLeast l n) : 1 ≤ n := by
  obtain ⟨W, h1, h0, hn, ps, ht, hl⟩ := h
  have hz : (0 : Int) ∈ W := (h1 0).2 (.inl rfl)
  have := nodup_le _ (W.erase 0) ht.1.high fun x hx => by
    obtain ⟨p, hp, rfl⟩ := List.mem_map.1 hx
    have o := ht.1.ok p hp
    have l := ht.1.lt h0 hp
    have := h0 _ o.1
    exact (List.mem_erase_of_ne (by omega)).2 o.2.1
  have h2 := List.length_erase_of_mem hz
  have h3 := List.length_pos_of_mem hz
  rw [List.length_map] at this
  omega
theorem IsLeast.le {l : List Int} {n : Nat} (h : IsLeast l n) : n ≤ l.length + 1 := by
  obtain ⟨W, h1, _, hn, ps, _, hl⟩ := h
  have := nodup_le W (0 :: l) hn fun x hx => List.mem_cons.2 ((h1 x).1 hx)
  simp only [List.length_cons] at this
  omega
theorem IsLeast.more {l : List Int} {one : Int} {n m : Nat} (h : IsLeast l n) (g : IsLeast (l ++ [one]) m) : m = n ∨ m = n + 1 := by
  obtain ⟨W, h1, _, h2⟩ := h
  obtain ⟨V, g1, g0, g2⟩ := g
  refine h2.more g2 one g0 fun x => ?_
  rw [g1, h1, List.mem_append, List.mem_singleton]
  constructor
  · rintro (e | e | e)
    · exact .inr (.inl e)
    · exact .inr (.inr e)
    · exact .inl e
  · rintro (e | e | e)
    · exact .inr (.inr e)
    · exact .inl e
    · exact .inr (.inl e)

/-- Least, in one. -/
theorem least_any (w : World) (v : Value) (l : List Int) (h : Ints w.heap.size w v l) :
    Calls Try.prog 9 #[v] w fun e w' => ∃ n : Nat, e = .returned (.tuple #[.int .i64 (n : Int), .int .i64 (lookE 8 l)]) ∧ (lookE 8 l = 0 → IsLeast l n) ∧ (lookE 8 l ≠ 0 → n = 0) ∧ Below w.heap.size w w' := by
  by_cases hl : lookE 8 l = 0
  · refine (least_ok w v l h hl).mono ?_
    rintro e w' ⟨n, rfl, h1, h2⟩
    exact ⟨n, by rw [hl], fun _ => h1, fun g => absurd hl g, h2⟩
  · refine (least_no w v l h hl).mono ?_
    rintro e w' ⟨rfl, rfl⟩
    exact ⟨0, rfl, fun g => absurd g hl, fun _ => rfl, Below.refl _ _⟩

set_option maxRecDepth 100000 in
set_option maxHeartbeats 4000000 in
theorem more_walk (w : World) (v : Value) (l : List Int) (one : Int) (h : Ints w.heap.size w v l) (hz : l.length * 8 ≤ 140737488351232) :
    Calls Try.prog 7 #[v, .int .i64 one] w fun e w' => e = .returned (.bool true) ∧ Below w.heap.size w w' := by
  have hle := least_any w v l h
  obtain ⟨va, vc, ev, _⟩ := id h
  have HI := hide h
  have HM : Hid (lookE 8 l ≠ 0 → lookE 8 (l ++ [one]) ≠ 0) := look_more
  clear h
  go_enter Try.func7, Try.ntmps7
  subst ev
  go_wp2_with fail
  refine hle.mono ?_
  clear hle
  rintro e w1 ⟨n, rfl, hn1, hn0, b1⟩
  have hI1 := ((unhide HI).below b1 (Nat.le_refl _)).mono b1.size
  obtain ⟨r2, w2, hrun2, hown2, b2⟩ := appI_run w1 _ l hI1 (by omega)
  obtain ⟨r3, w3, hrun3, hown3, hK3⟩ := app1_big w2 r2 l one hown2 b2.size (by omega)
  have hs1 := b1.size
  have hs2 := b2.size
  have b13 : Below w1.heap.size w1 w3 := b2.trans (hK3.below hs2 (fun b e => (hown2.block b e).1))
  have hle3 := least_any w3 r3 (l ++ [one]) hown3.intsS.ints
  have HE := hide (And.intro hn1 (And.intro hn0 (And.intro b1 b13)))
  have HR2 := hide hrun2
  have HR3 := hide hrun3
  obtain ⟨a2, c2, rfl⟩ : ∃ a c, r2 = .slice a l.length c := by obtain ⟨a, c, e, _⟩ := hown2.intsS; exact ⟨a, c, e⟩
  obtain ⟨a3, k3, c3, rfl⟩ : ∃ a k c, r3 = .slice a k c := by obtain ⟨a, c, e, _⟩ := hown3.intsS; exact ⟨a, _, c, e⟩
  clear hn1 hn0 b1 hI1 hrun2 hown2 b2 hrun3 hown3 hK3 b13
  generalize lookE 8 (l ++ [one]) = M at hle3 HM
  generalize lookE 8 l = L at HE HM
  go_wp2_with (first
    | (at_builtin; refine wpList_append_run _ rfl _ _ 22 rfl _ _ rfl rfl _ _ (unhide HR2) ?_; clear HR2)
    | (at_builtin; refine wpList_append_run _ rfl _ _ 22 rfl _ _ rfl rfl _ _ (unhide HR3) ?_; clear HR3))
  refine hle3.mono ?_
  clear hle3
  rintro e w4 ⟨m, rfl, hm1, hm0, b4⟩
  have hal := alive_any w4
  obtain ⟨hn1, hn0, b1, b13⟩ := unhide HE
  have b14 := b1.trans (b13.mono hs1)
  have b04 := b14.trans (b4.mono b14.size)
  have HB := hide b04
  have hs4 := b04.size
  by_cases hM : M = 0
  · have hL : L = 0 := Classical.byContradiction fun g => unhide HM g hM
    have hn := hn1 hL
    have hm := hm1 hM
    have hp := hn.pos
    have hnl := hn.le
    have hmo := hn.more hm
    subst hL hM
    clear hn1 hn0 b1 b13 b14 b04 b4 hm1 hm0 hn hm HE HM
    have hp1 : (1 : Int) ≤ (n : Int) := by omega
    by_cases he : m = n
    · have he1 : ((m : Int) == (n : Int)) = true := by simp [he]
      clear hmo he
      go_wp2_with fail
      refine hal.mono ?_
      clear hal
      rintro e w5 ⟨rfl, b5⟩
      have HB5 := hide b5
      clear b5
      go_wp2_with fail
      go_ret
      exact ⟨rfl, (unhide HB).trans ((unhide HB5).mono hs4)⟩
    · have he1 : ((m : Int) == (n : Int)) = false := by simp; omega
      have he2 : ((m : Int) == (n : Int) + 1) = true := by rw [beq_iff_eq]; omega
      clear hmo he
      go_wp2_with fail
      refine hal.mono ?_
      clear hal
      rintro e w5 ⟨rfl, b5⟩
      have HB5 := hide b5
      clear b5
      go_wp2_with fail
      go_ret
      exact ⟨rfl, (unhide HB).trans ((unhide HB5).mono hs4)⟩
  · have hM1 : (M != 0) = true := by simpa using hM
    clear hn1 hn0 b1 b13 b14 b04 b4 hm1 hm0 HE HM hM
    by_cases hL : L = 0
    · subst hL
      go_wp2_with fail
      refine hal.mono ?_
      clear hal
      rintro e w5 ⟨rfl, b5⟩
      have HB5 := hide b5
      clear b5
      go_wp2_with fail
      go_ret
      exact ⟨rfl, (unhide HB).trans ((unhide HB5).mono hs4)⟩
    · have hL1 : (L != 0) = true := by simpa using hL
      clear hL
      go_wp2_with fail
      refine hal.mono ?_
      clear hal
      rintro e w5 ⟨rfl, b5⟩
      have HB5 := hide b5
      clear b5
      go_wp2_with fail
      go_ret
      exact ⟨rfl, (unhide HB).trans ((unhide HB5).mono hs4)⟩
end Go.Proofs.Ytclialdbaclpoaa
