/- Pairs of sets of columns, each within the other: as many as can be. -/
namespace Go.Proofs.Ytclialdbaclpoaa

/-- One set of columns is within another one. -/
def sub (a b : Int) : Bool := (a.toNat &&& b.toNat) == a.toNat
theorem sub_iff {a b : Int} : sub a b = true ↔ ∀ i, a.toNat.testBit i = true → b.toNat.testBit i = true := by
  unfold sub
  rw [beq_iff_eq]
  constructor
  · intro h i hi
    rw [← h, Nat.testBit_and] at hi
    simp only [Bool.and_eq_true] at hi
    exact hi.2
  · intro h
    refine Nat.eq_of_testBit_eq fun i => ?_
    rw [Nat.testBit_and]
    cases hi : a.toNat.testBit i with
    | false => rfl
    | true => rw [h i hi]; rfl
theorem sub_trans {a b c : Int} (h1 : sub a b = true) (h2 : sub b c = true) : sub a c = true := sub_iff.2 fun i h => sub_iff.1 h2 i (sub_iff.1 h1 i h)
theorem sub_zero (x : Int) : sub 0 x = true := sub_iff.2 fun i h => by simp at h
theorem sub_le {a b : Int} (h : sub a b = true) (ha : 0 ≤ a) (hb : 0 ≤ b) : a ≤ b := by
  unfold sub at h
  rw [beq_iff_eq] at h
  have : a.toNat ≤ b.toNat := by rw [← h]; exact Nat.and_le_right
  omega

theorem nodup_le {α : Type} [DecidableEq α] : ∀ (l m : List α), l.Nodup → (∀ x ∈ l, x ∈ m) → l.length ≤ m.length
  | [], _, _, _ => Nat.zero_le _
  | x :: l, m, hn, h => by
    have hx := h x (by simp)
    rw [List.nodup_cons] at hn
    have h1 := nodup_le l (m.erase x) hn.2 fun y hy => (List.mem_erase_of_ne (fun (e : y = x) => hn.1 (e ▸ hy))).2 (h y (List.mem_cons_of_mem _ hy))
    have h2 := List.length_erase_of_mem hx
    have h3 := List.length_pos_of_mem hx
    simp only [List.length_cons]
    omega
theorem same_len {α : Type} [DecidableEq α] {l m : List α} (hl : l.Nodup) (hm : m.Nodup) (h : ∀ x, x ∈ l ↔ x ∈ m) : l.length = m.length :=
  Nat.le_antisymm (nodup_le l m hl fun x hx => (h x).1 hx) (nodup_le m l hm fun x hx => (h x).2 hx)
theorem filter_two {α : Type} (p : α → Bool) : ∀ l : List α, l.length = (l.filter p).length + (l.filter fun x => !p x).length
  | [] => rfl
  | x :: l => by
    have := filter_two p l
    cases h : p x
    all_goals
      simp [h]
      omega

/-- Pairs of members, each within the other. -/
structure Mt (W : List Int) (ps : List (Int × Int)) : Prop where
  low : (ps.map Prod.fst).Nodup
  high : (ps.map Prod.snd).Nodup
  ok : ∀ p ∈ ps, p.1 ∈ W ∧ p.2 ∈ W ∧ p.1 ≠ p.2 ∧ sub p.1 p.2 = true

theorem Mt.of_sub {W V : List Int} {ps : List (Int × Int)} (h : Mt W ps) (hs : ∀ x ∈ W, x ∈ V) : Mt V ps :=
  ⟨h.low, h.high, fun p hp => ⟨hs _ (h.ok p hp).1, hs _ (h.ok p hp).2.1, (h.ok p hp).2.2⟩⟩
theorem Mt.filter {W : List Int} {ps : List (Int × Int)} (h : Mt W ps) (p : Int × Int → Bool) : Mt W (ps.filter p) :=
  ⟨h.low.sublist ((List.filter_sublist).map _), h.high.sublist ((List.filter_sublist).map _), fun q hq => h.ok q (List.mem_filter.1 hq).1⟩
/-- No more than where the ones that are left out, and those that the rest can reach, make a bound. -/
theorem Mt.le {W : List Int} {ps : List (Int × Int)} (h : Mt W ps) (A B : Int → Bool) (hN : ∀ a ∈ W, ∀ b ∈ W, A a = true → a ≠ b → sub a b = true → B b = true) :
    ps.length ≤ (W.filter fun a => !A a).length + (W.filter B).length := by
  have h0 := filter_two (fun p : Int × Int => A p.1) ps
  have h1 := h.filter (fun p => A p.1)
  have h2 := h.filter (fun p => !A p.1)
  have g1 := nodup_le _ (W.filter B) h1.high fun x hx => by
    obtain ⟨p, hp, rfl⟩ := List.mem_map.1 hx
    have hp2 := List.mem_filter.1 hp
    have := h.ok p hp2.1
    exact List.mem_filter.2 ⟨this.2.1, hN _ this.1 _ this.2.1 hp2.2 this.2.2.1 this.2.2.2⟩
  have g2 := nodup_le _ (W.filter fun a => !A a) h2.low fun x hx => by
    obtain ⟨p, hp, rfl⟩ := List.mem_map.1 hx
    have hp2 := List.mem_filter.1 hp
    exact List.mem_filter.2 ⟨(h.ok p hp2.1).1, hp2.2⟩
  rw [List.length_map] at g1 g2
  omega

/-- Pairs of which there are as many as can be. -/
def Top (W : List Int) (ps : List (Int × Int)) : Prop := Mt W ps ∧ ∀ qs, Mt W qs → qs.length ≤ ps.length
theorem Top.same {W V : List Int} {ps qs : List (Int × Int)} (h : Top W ps) (g : Top V qs) (e : ∀ x, x ∈ W ↔ x ∈ V) : ps.length = qs.length :=
  Nat.le_antisymm (g.2 ps (h.1.of_sub fun x hx => (e x).1 hx)) (h.2 qs (g.1.of_sub fun x hx => (e x).2 hx))

/-- How few rows there are: the members, each once, less the pairs. -/
def Rows_ (W : List Int) (n : Nat) : Prop := W.Nodup ∧ ∃ ps, Top W ps ∧ n + ps.length = W.length
theorem Rows_.same {W V : List Int} {n m : Nat} (h : Rows_ W n) (g : Rows_ V m) (e : ∀ x, x ∈ W ↔ x ∈ V) : n = m := by
  obtain ⟨h1, ps, h2, h3⟩ := h
  obtain ⟨g1, qs, g2, g3⟩ := g
  have := h2.same g2 e
  have := same_len h1 g1 e
  omega

/-- What two different sets are to one another. -/
theorem Mt.lt {W : List Int} {ps : List (Int × Int)} (h : Mt W ps) (h0 : ∀ x ∈ W, 0 ≤ x) {p : Int × Int} (hp : p ∈ ps) : p.1 < p.2 := by
  obtain ⟨h1, h2, h3, h4⟩ := h.ok p hp
  have := sub_le h4 (h0 _ h1) (h0 _ h2)
  omega
theorem nodup_inj {α β : Type} {f : α → β} : ∀ {l : List α}, (l.map f).Nodup → ∀ {x y : α}, x ∈ l → y ∈ l → f x = f y → x = y
  | [], _, _, _, hx, _, _ => by cases hx
  | a :: l, hn, x, y, hx, hy, e => by
    rw [List.map_cons, List.nodup_cons] at hn
    rcases List.mem_cons.1 hx with hx1 | hx1
    · rcases List.mem_cons.1 hy with hy1 | hy1
      · rw [hx1, hy1]
      · exact absurd (by rw [← hx1, e]; exact List.mem_map_of_mem hy1) hn.1
    · rcases List.mem_cons.1 hy with hy1 | hy1
      · exact absurd (by rw [← hy1, ← e]; exact List.mem_map_of_mem hx1) hn.1
      · exact nodup_inj hn.2 hx1 hy1 e
theorem nodup_one {α : Type} [DecidableEq α] {l : List α} (h : l.Nodup) (p : α → Bool) (hp : ∀ x ∈ l, ∀ y ∈ l, p x = true → p y = true → x = y) : (l.filter p).length ≤ 1 := by
  cases e : l.filter p with
  | nil => simp
  | cons a r =>
    have ha := List.mem_filter.1 (show a ∈ l.filter p by rw [e]; simp)
    have := nodup_le (l.filter p) [a] (h.sublist List.filter_sublist) fun x hx => by
      have hx := List.mem_filter.1 hx
      simp [hp x hx.1 a ha.1 hx.2 ha.2]
    rw [e] at this
    exact this
theorem Mt.nodup {W : List Int} {ps : List (Int × Int)} (h : Mt W ps) : ps.Nodup := by
  have : ∀ l : List (Int × Int), (l.map Prod.fst).Nodup → l.Nodup := by
    intro l
    induction l with
    | nil => intro _; exact List.nodup_nil
    | cons a l ih =>
      intro hn
      rw [List.map_cons, List.nodup_cons] at hn
      exact List.nodup_cons.2 ⟨fun hm => hn.1 (List.mem_map_of_mem hm), ih hn.2⟩
  exact this ps h.low
/-- Without one member there is at most one pair fewer, where its pairs can be joined. -/
theorem Mt.without {W : List Int} {ps : List (Int × Int)} (h : Mt W ps) (h0 : ∀ x ∈ W, 0 ≤ x) (v : Int) : ∃ qs, Mt (W.filter fun x => x != v) qs ∧ ps.length ≤ qs.length + 1 := by
  have hn := h.nodup
  -- the pairs without v
  have hf : Mt (W.filter fun x => x != v) (ps.filter fun p => p.1 != v && p.2 != v) := by
    have h2 := h.filter (fun p => p.1 != v && p.2 != v)
    refine ⟨h2.low, h2.high, fun p hp => ?_⟩
    have g := h2.ok p hp
    have e := (List.mem_filter.1 hp).2
    simp only [Bool.and_eq_true, bne_iff_ne] at e
    exact ⟨List.mem_filter.2 ⟨g.1, by simpa using e.1⟩, List.mem_filter.2 ⟨g.2.1, by simpa using e.2⟩, g.2.2⟩
  have c0 := filter_two (fun p : Int × Int => p.1 != v && p.2 != v) ps
  have c1 : (ps.filter fun p => !(p.1 != v && p.2 != v)).length ≤ (ps.filter fun p => p.1 == v).length + (ps.filter fun p => p.2 == v).length := by
    have : ∀ l : List (Int × Int), (l.filter fun p => !(p.1 != v && p.2 != v)).length ≤ (l.filter fun p => p.1 == v).length + (l.filter fun p => p.2 == v).length := by
      intro l
      induction l with
      | nil => simp
      | cons a l ih =>
        by_cases e1 : a.1 = v
        all_goals by_cases e2 : a.2 = v
        all_goals
          simp [e1, e2] at ih ⊢
          omega
    exact this ps
  have d1 := nodup_one hn (fun p => p.1 == v) fun x hx y hy e1 e2 => nodup_inj h.low hx hy (by simp at e1 e2; rw [e1, e2])
  have d2 := nodup_one hn (fun p => p.2 == v) fun x hx y hy e1 e2 => nodup_inj h.high hx hy (by simp at e1 e2; rw [e1, e2])
  by_cases k1 : (ps.filter fun p => p.1 == v).length = 0
  · exact ⟨_, hf, by omega⟩
  by_cases k2 : (ps.filter fun p => p.2 == v).length = 0
  · exact ⟨_, hf, by omega⟩
  -- both: a within v within b
  obtain ⟨p, hp⟩ := List.exists_mem_of_length_pos (by omega : 0 < (ps.filter fun p => p.2 == v).length)
  obtain ⟨q, hq⟩ := List.exists_mem_of_length_pos (by omega : 0 < (ps.filter fun p => p.1 == v).length)
  obtain ⟨hp1, hp2⟩ := List.mem_filter.1 hp
  obtain ⟨hq1, hq2⟩ := List.mem_filter.1 hq
  simp only [beq_iff_eq] at hp2 hq2
  have lp := h.lt h0 hp1
  have lq := h.lt h0 hq1
  have op := h.ok p hp1
  have oq := h.ok q hq1
  refine ⟨(p.1, q.2) :: ps.filter (fun p => p.1 != v && p.2 != v), ⟨?_, ?_, ?_⟩, by simp only [List.length_cons]; omega⟩
  · rw [List.map_cons, List.nodup_cons]
    refine ⟨fun hm => ?_, hf.low⟩
    obtain ⟨r, hr, e⟩ := List.mem_map.1 hm
    have hr2 := List.mem_filter.1 hr
    have := nodup_inj h.low hr2.1 hp1 e
    have e3 := hr2.2
    rw [this, hp2] at e3
    simp at e3
  · rw [List.map_cons, List.nodup_cons]
    refine ⟨fun hm => ?_, hf.high⟩
    obtain ⟨r, hr, e⟩ := List.mem_map.1 hm
    have hr2 := List.mem_filter.1 hr
    have := nodup_inj h.high hr2.1 hq1 e
    have e3 := hr2.2
    rw [this, hq2] at e3
    simp at e3
  · intro r hr
    rcases List.mem_cons.1 hr with rfl | hr
    · refine ⟨List.mem_filter.2 ⟨op.1, ?_⟩, List.mem_filter.2 ⟨oq.2.1, ?_⟩, ?_, ?_⟩
      · simp; omega
      · simp; omega
      · show p.1 ≠ q.2
        omega
      · exact sub_trans (hp2 ▸ op.2.2.2) (hq2 ▸ oq.2.2.2)
    · exact hf.ok r hr

/-- One more member: as many rows, or one more. -/
theorem Rows_.more {W V : List Int} {n m : Nat} (h : Rows_ W n) (g : Rows_ V m) (v : Int) (h0 : ∀ x ∈ V, 0 ≤ x) (e : ∀ x, x ∈ V ↔ x = v ∨ x ∈ W) : m = n ∨ m = n + 1 := by
  by_cases hv : v ∈ W
  · refine .inl (g.same h fun x => ?_)
    rw [e]
    exact ⟨fun h => h.elim (fun e => e ▸ hv) id, .inr⟩
  · obtain ⟨h1, ps, h2, h3⟩ := h
    obtain ⟨g1, qs, g2, g3⟩ := g
    have hl : V.length = W.length + 1 := by
      have := same_len g1 (List.nodup_cons.2 ⟨hv, h1⟩) (fun x => by rw [e, List.mem_cons])
      simpa using this
    have k1 := g2.2 ps (h2.1.of_sub fun x hx => (e x).2 (.inr hx))
    obtain ⟨rs, r1, r2⟩ := g2.1.without h0 v
    have k2 := h2.2 rs (r1.of_sub fun x hx => by
      have := List.mem_filter.1 hx
      rcases (e x).1 this.1 with rfl | h
      · simp at this
      · exact h)
    omega

/-- Members of which no two are within one another, and nought. -/
theorem Rows_.apart {W : List Int} {n : Nat} (h : Rows_ W n) (h0 : 0 ∈ W) (h1 : ∀ a ∈ W, ∀ b ∈ W, a ≠ 0 → a ≠ b → sub a b = false) (h2 : 2 ≤ W.length) : n + 1 = W.length := by
  obtain ⟨hn, ps, ht, hl⟩ := h
  have k1 := ht.1.le (fun a => a != 0) (fun _ => false) fun a ha b hb hA hne hs => by
    have := h1 a ha b hb (by simpa using hA) hne
    rw [this] at hs; cases hs
  have k2 : (W.filter fun a => !(a != 0)).length ≤ 1 := nodup_one hn _ fun x _ y _ e1 e2 => by simp at e1 e2; rw [e1, e2]
  have k3 : (W.filter fun _ => false).length = 0 := by simp
  obtain ⟨x, hx, hx0⟩ : ∃ x ∈ W, x ≠ 0 := by
    rcases Classical.em (∃ x ∈ W, x ≠ 0) with h | h
    · exact h
    · exfalso
      have := nodup_le W [0] hn fun x hx => by
        have : x = 0 := Classical.byContradiction fun e => h ⟨x, hx, e⟩
        simp [this]
      simp at this
      omega
  have k4 := ht.2 [(0, x)] ⟨by simp, by simp, fun p hp => by
    obtain rfl : p = (0, x) := by simpa using hp
    exact ⟨h0, hx, fun e => hx0 e.symm, sub_zero x⟩⟩
  simp at k4
  omega
/-- The pairs of neighbours. -/
def nexts : List Int → List (Int × Int)
  | a :: b :: r => (a, b) :: nexts (b :: r)
  | _ => []
theorem nexts_fst : ∀ l : List Int, ∀ p ∈ nexts l, p.1 ∈ l ∧ p.2 ∈ l.tail
  | [], _, h => by cases h
  | [_], _, h => by cases h
  | a :: b :: r, p, h => by
    rcases List.mem_cons.1 h with rfl | h
    · simp
    · have := nexts_fst (b :: r) p h
      exact ⟨List.mem_cons_of_mem _ this.1, List.mem_cons_of_mem _ this.2⟩
theorem nexts_len : ∀ l : List Int, (nexts l).length + 1 = max l.length 1
  | [] => rfl
  | [_] => rfl
  | a :: b :: r => by
    have := nexts_len (b :: r)
    simp only [nexts, List.length_cons] at this ⊢
    omega
theorem nexts_mt : ∀ l : List Int, l.Pairwise (fun a b => a < b ∧ sub a b = true) → Mt l (nexts l)
  | [], _ => ⟨by simp [nexts], by simp [nexts], fun p h => by cases h⟩
  | [_], _ => ⟨by simp [nexts], by simp [nexts], fun p h => by cases h⟩
  | a :: b :: r, h => by
    rw [List.pairwise_cons] at h
    have ih := nexts_mt (b :: r) h.2
    refine ⟨?_, ?_, ?_⟩
    · simp only [nexts, List.map_cons, List.nodup_cons]
      refine ⟨fun hm => ?_, ih.low⟩
      obtain ⟨p, hp, e⟩ := List.mem_map.1 hm
      have := (h.1 _ (nexts_fst _ p hp).1).1
      omega
    · simp only [nexts, List.map_cons, List.nodup_cons]
      refine ⟨fun hm => ?_, ih.high⟩
      obtain ⟨p, hp, e⟩ := List.mem_map.1 hm
      have := ((List.pairwise_cons.1 h.2).1 _ (nexts_fst _ p hp).2).1
      omega
    · intro p hp
      rcases List.mem_cons.1 hp with rfl | hp
      · have := h.1 b (by simp)
        exact ⟨by simp, by simp, by show a ≠ b; omega, this.2⟩
      · have := ih.ok p hp
        exact ⟨List.mem_cons_of_mem _ this.1, List.mem_cons_of_mem _ this.2.1, this.2.2⟩
/-- A row of growing ones. -/
theorem Rows_.row {W : List Int} {n : Nat} (h : Rows_ W n) (hn : W.Pairwise (fun a b => a < b)) (h0 : ∀ x ∈ W, 0 ≤ x) (h1 : ∀ a ∈ W, ∀ b ∈ W, a < b → sub a b = true) (h2 : 1 ≤ W.length) : n = 1 := by
  obtain ⟨_, ps, ht, hl⟩ := h
  have k1 := ht.2 _ (nexts_mt W (by
    refine hn.imp_of_mem ?_
    intro a b ha hb h
    exact ⟨h, h1 a ha b hb h⟩))
  have k2 := nexts_len W
  cases W with
  | nil => simp at h2
  | cons a r =>
    -- the first one is no other's
    have := nodup_le _ r ht.1.high fun x hx => by
      obtain ⟨p, hp, rfl⟩ := List.mem_map.1 hx
      have o := ht.1.ok p hp
      have l := ht.1.lt h0 hp
      rcases List.mem_cons.1 o.2.1 with e | e
      · rcases List.mem_cons.1 o.1 with e2 | e2
        · omega
        · have := (List.pairwise_cons.1 hn).1 _ e2
          omega
      · exact e
    simp only [List.length_map, List.length_cons] at *
    omega
/-- Nought makes no further row. -/
theorem Rows_.nought {U W : List Int} {n : Nat} {ps : List (Int × Int)} (h : Rows_ W n) (hU : U.Nodup) (ht : Top U ps) (h0 : ∀ x ∈ W, 0 ≤ x) (hz : ¬ (0 : Int) ∈ U) (e : ∀ x, x ∈ W ↔ x = 0 ∨ x ∈ U) : n = max (U.length - ps.length) 1 ∧ ps.length ≤ U.length := by
  obtain ⟨hn, qs, hq, hl⟩ := h
  have hl2 : W.length = U.length + 1 := by
    have := same_len hn (List.nodup_cons.2 ⟨hz, hU⟩) (fun x => by rw [e, List.mem_cons])
    simpa using this
  have hps : ps.length ≤ U.length := by
    have := nodup_le _ U ht.1.low fun x hx => by
      obtain ⟨p, hp, rfl⟩ := List.mem_map.1 hx
      exact (ht.1.ok p hp).1
    simpa using this
  refine ⟨?_, hps⟩
  obtain ⟨rs, r1, r2⟩ := hq.1.without h0 0
  have k2 := ht.2 rs (r1.of_sub fun x hx => by
      have := List.mem_filter.1 hx
      rcases (e x).1 this.1 with rfl | h
      · simp at this
      · exact h)
  cases hU2 : U with
  | nil =>
    subst hU2
    have := nodup_le _ ([] : List Int) hq.1.high fun x hx => by
      obtain ⟨p, hp, rfl⟩ := List.mem_map.1 hx
      have o := hq.1.ok p hp
      have l := hq.1.lt h0 hp
      have a1 := h0 _ o.1
      rcases (e _).1 o.2.1 with e | e
      · omega
      · cases e
    simp at this hps hl2 ⊢
    rw [this] at hl
    simp at hl
    omega
  | cons a r =>
    -- the least one is no other's
    obtain ⟨u, hu, hmin⟩ : ∃ u ∈ U, ∀ x ∈ U, u ≤ x := by
      have : ∀ l : List Int, l ≠ [] → ∃ u ∈ l, ∀ x ∈ l, u ≤ x := by
        intro l
        induction l with
        | nil => intro h; exact absurd rfl h
        | cons a l ih =>
          intro _
          by_cases hl : l = []
          · subst hl; exact ⟨a, by simp, by simp⟩
          · obtain ⟨u, hu, hm⟩ := ih hl
            by_cases g : a ≤ u
            · exact ⟨a, by simp, fun x hx => by rcases List.mem_cons.1 hx with rfl | hx; omega; have := hm x hx; omega⟩
            · exact ⟨u, List.mem_cons_of_mem _ hu, fun x hx => by rcases List.mem_cons.1 hx with rfl | hx; omega; exact hm x hx⟩
      exact this U (by rw [hU2]; simp)
    have hu0 : u ≠ 0 := fun e => hz (e ▸ hu)
    have k1 := hq.2 ((0, u) :: ps) ⟨?_, ?_, ?_⟩
    · rw [← hU2]
      have : 1 ≤ U.length := by rw [hU2]; simp
      have hlt : ps.length + 1 ≤ U.length := by
        have := nodup_le _ (U.erase u) ht.1.high fun x hx => by
          obtain ⟨p, hp, rfl⟩ := List.mem_map.1 hx
          have o := ht.1.ok p hp
          have l := ht.1.lt (fun x hx => h0 x ((e x).2 (.inr hx))) hp
          have := hmin _ o.1
          exact (List.mem_erase_of_ne (by omega)).2 o.2.1
        have h5 := List.length_erase_of_mem hu
        simp only [List.length_map] at this
        omega
      simp only [List.length_cons] at k1
      omega
    · rw [List.map_cons, List.nodup_cons]
      refine ⟨fun hm => ?_, ht.1.low⟩
      obtain ⟨p, hp, e2⟩ := List.mem_map.1 hm
      have e3 : p.1 = 0 := e2
      exact hz (e3 ▸ (ht.1.ok p hp).1)
    · rw [List.map_cons, List.nodup_cons]
      refine ⟨fun hm => ?_, ht.1.high⟩
      obtain ⟨p, hp, e2⟩ := List.mem_map.1 hm
      have o := ht.1.ok p hp
      have l := ht.1.lt (fun x hx => h0 x ((e x).2 (.inr hx))) hp
      have := hmin _ o.1
      have e3 : p.2 = u := e2
      omega
    · intro p hp
      rcases List.mem_cons.1 hp with rfl | hp
      · exact ⟨(e 0).2 (.inl rfl), (e u).2 (.inr hu), fun e => hu0 e.symm, sub_zero u⟩
      · have o := ht.1.ok p hp
        exact ⟨(e _).2 (.inr o.1), (e _).2 (.inr o.2.1), o.2.2⟩
end Go.Proofs.Ytclialdbaclpoaa
