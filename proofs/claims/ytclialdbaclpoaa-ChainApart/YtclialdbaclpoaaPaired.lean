/- The walk of paired. -/
import Derived.Test.YtclialdbaclpoaaSorts
namespace Go.Proofs.Ytclialdbaclpoaa
open Go.RowKit Go.Shelf Go.Maps

/-- Numbers behind an own row. -/
theorem appR_run {base : Nat} (w : World) (v xv : Value) (l x : List Int) (h : OwnI base w v l) (hl : l ≠ []) (hx : Ints w.heap.size w xv x) (hn : l.length + x.length ≤ 2000) (hb : base ≤ w.heap.size) :
    ∃ r w', (Builtin.append_ #[22, 22] 22 #[v, xv]).run Try.prog w = .ok r w' ∧ OwnI base w' r (l ++ x) ∧ Keeps (fun b => some b = v.ownBlock) w w' := by
  obtain ⟨a, cap, rfl, hc1, hc2, hcell⟩ := hx
  obtain ⟨i, h1, h2, h3, h4⟩ := infoI
  have ht : Try.prog.underlying 22 = some (.slice 3) := by kernel_rfl
  cases a with
  | none =>
    have hx0 : x = [] := by
      cases x with
      | nil => rfl
      | cons y r =>
        obtain ⟨b, off, e, _⟩ := hcell 0 y rfl
        cases e
    subst hx0
    obtain ⟨g, c, rfl, _, _, h5, _⟩ := h.shape hl
    refine ⟨_, w, ?_, by rw [List.append_nil]; exact h, Keeps.refl _ _⟩
    simp [Builtin.append_, run_underlying ht, sizeOf, typeInfo, h1, Builtin.lenOf, Builtin.firstCells, storeCells, h5]
  | some ad =>
    obtain ⟨r, w', hr, ho, hg, _⟩ := run_append_own_at (P := Try.prog) w base 22 22 3 i (.int .i64 0) 1 8 ht h1 h2 h3 h4 rfl (by decide) v l.length (l.map (Value.int .i64)) h ad x.length cap (x.map (Value.int .i64)) (by simp) (fun j u hj => by
      rw [List.getElem?_map, Option.map_eq_some_iff] at hj
      obtain ⟨y, hy, rfl⟩ := hj
      obtain ⟨b, off, e, _, hc⟩ := hcell j y hy
      cases e
      rw [Addr.add_lit]
      exact hc) (fun u hu => by obtain ⟨y, _, rfl⟩ := List.mem_map.1 hu; rfl) (by unfold maxLen; omega) (by omega) hb
    refine ⟨r, w', hr, ?_, keeps_grown hg (fun b hb => hb)⟩
    unfold OwnI
    simpa using ho

/-- Pairs in memory. -/
structure Prs (w : World) (v : Value) (l : List Int) (N : Nat) (f ab be : Nat → Int) : Prop where
  mem : ∃ sb sc a ac b bc, v = .agg #[.slice (some ⟨sb, 0, none⟩) N sc, .slice (some ⟨a, 0, none⟩) N ac, .slice (some ⟨b, 0, none⟩) N bc] ∧ Arr w sb N f ∧ Arr w a N ab ∧ Arr w b N be
  n1 : 1 ≤ N
  n2 : N ≤ 257
  up : Up_ N f
  small : Small N f
  all : ∀ x, x ∈ vals N f ↔ x = 0 ∨ x ∈ l
  done : Done N (In f) ab be N

/-- The pairs behind k. -/
def LowR (N : Nat) (f : Nat → Int) (a b : Nat) (w9 : World) (i : Value) (wr : World) : Prop := ∃ (k : Nat) (ab be : Nat → Int), k ≤ N ∧ i = .int .i64 (k : Int) ∧ Arr wr a N ab ∧ Arr wr b N be ∧ Done N (In f) ab be k ∧ Keeps (fun x => x = a ∨ x = b) w9 wr

theorem uniq_vals (l : List Int) : vals (uniq l).length (fun j => (uniq l).getD j 0) = uniq l := by
  unfold vals
  apply List.ext_getElem
  · simp
  · intro i h1 h2
    simp [List.getD, List.getElem?_eq_getElem h2]
theorem uniq_Up (l : List Int) : Up_ (uniq l).length (fun j => (uniq l).getD j 0) := by
  intro i j hij hj
  have := (List.pairwise_iff_getElem.1 (uniq_up l).1) i j (by omega) hj hij
  simpa [List.getD, List.getElem?_eq_getElem hj, List.getElem?_eq_getElem (show i < (uniq l).length by omega)] using this
theorem uniq_small (l : List Int) (h : ∀ x ∈ l, 0 ≤ x ∧ x < 256) : Small (uniq l).length (fun j => (uniq l).getD j 0) := by
  intro j hj
  have : (uniq l).getD j 0 ∈ uniq l := by
    rw [List.getD, List.getElem?_eq_getElem hj]
    exact List.getElem_mem hj
  exact h _ (((uniq_up l).2 _).1 this)

set_option maxRecDepth 100000 in
set_option maxHeartbeats 8000000 in
theorem paired_any (w : World) (v : Value) (l : List Int) (h : Ints w.heap.size w v l) (hn : l.length ≤ 256) (hl : ∀ x ∈ l, 0 ≤ x ∧ x < 256) :
    Calls Try.prog 19 #[v] w fun e w' => ∃ r N f ab be, e = .returned r ∧ Prs w' r l N f ab be ∧ Below w.heap.size w w' := by
  -- the result's box and the row with nought
  obtain ⟨b1, hnw, hs1⟩ := box3 w (.slice none 0 0) (.slice none 0 0) (.slice none 0 0) 44
  obtain ⟨w1, hw1⟩ : ∃ w1, w1 = w.alloc (.cells #[.slice none 0 0, .slice none 0 0, .slice none 0 0] 44) := ⟨_, rfl⟩
  rw [← hw1] at b1 hnw hs1
  obtain ⟨w2, hw2⟩ : ∃ w2, w2 = w1.alloc (.cells #[.int .i64 0] 3) := ⟨_, rfl⟩
  have b2 : Below w1.heap.size w1 w2 := by rw [hw2]; exact (Below.refl _ w1).alloc (Nat.le_refl _) _
  have hs2 : w2.heap.size = w1.heap.size + 1 := by rw [hw2]; simp
  have hown2 : OwnI w1.heap.size w2 (.slice (some ⟨w1.heap.size, 0, none⟩) 1 1) [0] := by
    refine ⟨rfl, .inr ⟨w1.heap.size, 1, #[.int .i64 0], rfl, Nat.le_refl _, ?_, Nat.le_refl _, by unfold maxLen; omega, rfl, rfl⟩⟩
    rw [hw2]
    exact World.alloc_heap_new _ _
  have b12 := b1.trans (b2.mono b1.size)
  obtain ⟨r3, w3, hrun, hown3, hK3⟩ := appR_run w2 _ v [0] l hown2 (by simp) ((h.below b12 (Nat.le_refl _)).mono b12.size) (by simp; omega) (by omega)
  have b03 : Below w.heap.size w w3 := b12.trans (hK3.below b12.size (fun b e => by simp only [Value.ownBlock, Option.some.injEq] at e; omega))
  have hnw3 := hK3.same _ _ ((b2.block _ (by omega)).trans hnw) (fun e => by simp only [Value.ownBlock, Option.some.injEq] at e; omega)
  rw [List.singleton_append] at hown3
  have hso := sort_own w3 r3 (0 :: l) hown3 (by simp) (by simp; omega)
  obtain ⟨va, vc, rfl, _⟩ := id h
  obtain ⟨ra, rc, rfl⟩ : ∃ ra rc, r3 = .slice ra (l.length + 1) rc := by
    obtain ⟨g, c, e, _⟩ := hown3.shape (by simp)
    exact ⟨_, _, e⟩
  rw [hs1] at hrun
  have HE := hide (And.intro b03 (And.intro hnw3 (And.intro hown3 hl)))
  have hs3 := b03.size
  clear b1 hnw b2 hown2 b12 hown3 hK3 b03 hnw3 h hl hs1 hs2
  subst hw2
  subst hw1
  have HRUN := hide hrun
  clear hrun
  go_enter Try.func19, Try.ntmps19
  go_wp2_with (at_builtin; refine wpList_append_run _ rfl _ _ 22 rfl _ _ rfl rfl _ _ (unhide HRUN) ?_)
  refine hso.mono ?_
  clear hso
  rintro e w4 ⟨rfl, hown4, hK4⟩
  obtain ⟨b03, hnw3, hown3, hl⟩ := unhide HE
  have hob := hown3.block
  have b04 : Below w.heap.size w w4 := b03.trans (hK4.below hs3 (fun b e => by have := (hob b e).1; simp at this; omega))
  have hnw4 := hK4.same _ _ hnw3 (fun e => by have := (hob _ e).1; simp at this; omega)
  have hco := compact_own w4 _ _ hown4 (fun e => by have := congrArg List.length e; simp at this) (by simp; omega)
  have hob4 := hown4.block
  obtain ⟨N, hN⟩ : ∃ N, N = (uniq (0 :: l)).length := ⟨_, rfl⟩
  obtain ⟨f, hf⟩ : ∃ f : Nat → Int, f = fun j => (uniq (0 :: l)).getD j 0 := ⟨_, rfl⟩
  have hf1 : Up_ N f := by rw [hN, hf]; exact uniq_Up _
  have hf2 : Small N f := by
    rw [hN, hf]
    refine uniq_small _ fun x hx => ?_
    rcases List.mem_cons.1 hx with e | e
    · omega
    · exact hl x e
  have hf3 : ∀ x, x ∈ vals N f ↔ x = 0 ∨ x ∈ l := fun x => by
    rw [hN, hf, uniq_vals, (uniq_up _).2, List.mem_cons]
  have hN1 : 1 ≤ N := by
    have := (hf3 0).2 (.inl rfl)
    rw [← vals_length N f]
    exact List.length_pos_of_mem this
  have hN2 : N ≤ 257 := by
    have := uniq_len (0 :: l)
    rw [← hN] at this
    simp at this
    omega
  change Calls Try.prog 29 _ w4 (fun e w' => ∃ g c, e = .returned (.slice (some ⟨g, 0, none⟩) (uniq (0 :: l)).length c) ∧ some g = _ ∧ _ ≤ g ∧ Arr w' g (uniq (0 :: l)).length (fun j => (uniq (0 :: l)).getD j 0) ∧ Keeps _ w4 w') at hco
  rw [← hN, ← hf] at hco
  have HE4 := hide (And.intro b04 (And.intro hnw4 (And.intro hob4 (And.intro hf1 (And.intro hf2 hf3)))))
  have hs4 := b04.size
  clear hN hf hown4 hK4 b03 hnw3 hown3 hl hob b04 hnw4 hob4 hf1 hf2 hf3 HE
  go_wp2_with fail
  refine hco.mono ?_
  clear hco
  rintro e w5 ⟨g, c, rfl, hg1, hg2, hA5, hK5⟩
  obtain ⟨b04, hnw4, hob4, hf1, hf2, hf3⟩ := unhide HE4
  have b05 : Below w.heap.size w w5 := b04.trans (hK5.below hs4 (fun b e => by have := (hob4 b e).1; simp at this; omega))
  have hnw5 := hK5.same _ _ hnw4 (fun e => by have := (hob4 _ e).1; simp at this; omega)
  have hn1 := nones_any w5 N hN1 (by omega)
  have hs5 := b05.size
  have hg5 := hA5.lt
  have hg0 : w.heap.size < g := by simp at hg2; omega
  have HE5 := hide (And.intro b05 (And.intro hnw5 hA5))
  clear b04 hnw4 hob4 hf1 hf2 hf3 b05 hnw5 hA5 hK5 hg1 hg2
  go_wp2_with fail
  refine hn1.mono ?_
  clear hn1
  rintro e w6 ⟨a, ac, rfl, ha1, ha2, b6⟩
  have hn2 := nones_any w6 N hN1 (by omega)
  have hs6 := b6.size
  have la := ha2.lt
  have HE6 := hide (And.intro ha2 b6)
  clear ha2 b6
  go_wp2_with fail
  refine hn2.mono ?_
  clear hn2
  rintro e w7 ⟨b, bc, rfl, hb1, hb2, b7⟩
  have hs7 := b7.size
  have lb := hb2.lt
  have HE7 := hide (And.intro hb2 b7)
  clear hb2 b7
  go_wp2_with fail
  obtain ⟨b8, hnw8, hs8⟩ := box3 w7 (.slice (some ⟨g, 0, none⟩) N c) (.slice (some ⟨a, 0, none⟩) N ac) (.slice (some ⟨b, 0, none⟩) N bc) 44
  obtain ⟨w8, hw8⟩ : ∃ w8, w8 = w7.alloc (.cells #[.slice (some ⟨g, 0, none⟩) N c, .slice (some ⟨a, 0, none⟩) N ac, .slice (some ⟨b, 0, none⟩) N bc] 44) := ⟨_, rfl⟩
  rw [← hw8] at b8 hnw8 hs8 ⊢
  clear hw8
  obtain ⟨b05, hnw5, hA5⟩ := unhide HE5
  obtain ⟨hA6, b6⟩ := unhide HE6
  obtain ⟨hA7, b7⟩ := unhide HE7
  have b58 : Below w5.heap.size w5 w8 := (b6.trans (b7.mono hs6)).trans (b8.mono (by omega))
  have hnwr := (b58.block _ (by omega)).trans hnw5
  have HE8 := hide (And.intro (b05.trans (b58.mono hs5)) (And.intro hnwr (And.intro hnw8 (hA5.later b58))))
  have HS : Hid (LowR N f a b w8 (.int .i64 0) w8) := ⟨0, fun _ => -1, fun _ => -1, Nat.zero_le _, rfl, (hA6.later b7).later b8, hA7.later b8, Done.start N (In f), Keeps.refl _ _⟩
  clear b05 hnw5 hA5 hA6 b6 hA7 b7 b58 hnwr hnw8 b8
  obtain ⟨P8, hP8⟩ : ∃ P8, P8 = w7.heap.size := ⟨_, rfl⟩
  rw [← hP8] at HE8 hs8 lb hs7 ⊢
  have HP8 := hide hP8
  clear hP8
  go_loopw [23] (fun i wr => LowR N f a b w8 i wr) (fun i _ => N - (intOf i).toNat)
  case atStart => exact unhide HS
  case round =>
    obtain ⟨k, ab, be, hk, rfl, hab, hbe, hd, hK⟩ := hrel
    obtain ⟨b08, hnwr, hnw8, hA8⟩ := unhide HE8
    have hpx := hK.same _ _ hnw8 (fun e => by omega)
    obtain ⟨c0, c1, c2, _⟩ := three_cells hpx
    by_cases hkN : k < N
    · have hpa := pair_any (hide nones_any) wr g a b N c ac bc f ab be k (hA8.keeps hK (fun e => by omega)) (unhide HE4).2.2.2.2.1 hab hbe (by omega) (by omega) hkN hd
      have HK := hide hK
      clear b08 hnwr hnw8 hA8 hpx hab hbe hd hK
      go_wp2_with fail
      refine hpa.mono ?_
      clear hpa
      rintro e w9 ⟨rfl, hK9, ab9, be9, h1, h2, h3⟩
      have HE9 := hide (And.intro hK9 (And.intro h1 (And.intro h2 h3)))
      clear hK9 h1 h2 h3
      go_wp2_with fail
      go_roundw
      case rel =>
        obtain ⟨hK9, h1, h2, h3⟩ := unhide HE9
        exact ⟨k + 1, ab9, be9, by omega, by go_num, h1, h2, h3, (unhide HK).trans hK9 (fun _ _ e => e)⟩
      case measure => simp [intOf]; omega
    · have hkN2 : k = N := by omega
      subst hkN2
      have hrx := hK.same _ _ hnwr (fun e => by omega)
      obtain ⟨x0, x1, x2, y0, y1, y2⟩ := three_cells hrx
      have hnpr : P8 ≠ w.heap.size := by omega
      have HE9 := hide (And.intro (b08.trans (hK.below (by omega) (fun x e => by omega))) (And.intro hrx (And.intro (hA8.keeps hK (fun e => by omega)) (And.intro hab (And.intro hbe hd)))))
      clear b08 hnwr hnw8 hA8 hpx hab hbe hd hK hrx
      go_wp2_with fail
      obtain ⟨b09, hrx, hA9, hab, hbe, hd⟩ := unhide HE9
      have hW := set_heap (set_heap (set_heap hrx 0 (.slice (some ⟨g, 0, none⟩) k c)) 1 (.slice (some ⟨a, 0, none⟩) k ac)) 2 (.slice (some ⟨b, 0, none⟩) k bc)
      obtain ⟨d0, d1, d2, _⟩ := three_cells (x := .slice (some ⟨g, 0, none⟩) k c) (y := .slice (some ⟨a, 0, none⟩) k ac) (z := .slice (some ⟨b, 0, none⟩) k bc) (t := 44) hW
      have hKr : Keeps (fun x => x = w.heap.size) wr (((wr.setCell ⟨w.heap.size, 0, none⟩ (.slice (some ⟨g, 0, none⟩) k c)).setCell ⟨w.heap.size, 1, none⟩ (.slice (some ⟨a, 0, none⟩) k ac)).setCell ⟨w.heap.size, 2, none⟩ (.slice (some ⟨b, 0, none⟩) k bc)) :=
        (((Keeps.refl (fun x => x = w.heap.size) wr).setCell ⟨w.heap.size, 0, none⟩ rfl _).setCell ⟨w.heap.size, 1, none⟩ rfl _).setCell ⟨w.heap.size, 2, none⟩ rfl _
      refine bodyPost_ret (v := .agg #[.slice (some ⟨g, 0, none⟩) k c, .slice (some ⟨a, 0, none⟩) k ac, .slice (some ⟨b, 0, none⟩) k bc]) (by simp [results, Try.f19, go_sem, d0, d1, d2]) rfl ?_
      obtain ⟨_, _, _, hf1, hf2, hf3⟩ := unhide HE4
      exact ⟨_, k, f, ab, be, rfl, ⟨⟨g, c, a, ac, b, bc, rfl, hA9.keeps hKr (fun e => by omega), hab.keeps hKr (fun e => by omega), hbe.keeps hKr (fun e => by omega)⟩, hN1, hN2, hf1, hf2, hf3, hd⟩, b09.trans (hKr.below b09.size (fun x e => by omega))⟩
end Go.Proofs.Ytclialdbaclpoaa
