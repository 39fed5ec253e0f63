/- Pairs of sets of columns, each within the other: as many as can be. Pairs that give way to one another: what is found, and that where nothing is found there is nothing. -/

namespace Go.Proofs.YthcljhfankooaabGreat.C

/-- One set of columns is within another one. -/
def sub (a b : Int) : Bool := (a.toNat &&& b.toNat) == a.toNat
theorem sub_iff {a b : Int} : sub a b = true ↔ ∀ i, a.toNat.testBit i = true → b.toNat.testBit i = true := by
  unfold sub
  rw [beq_iff_eq]
  constructor
  · intro h i hi
    rw [← h, Nat.testBit_and] at hi
    simp only [Bool.and_eq_true] at hi
    exact hi.2
  · intro h
    refine Nat.eq_of_testBit_eq fun i => ?_
    rw [Nat.testBit_and]
    cases hi : a.toNat.testBit i with
    | false => rfl
    | true => rw [h i hi]; rfl
theorem sub_trans {a b c : Int} (h1 : sub a b = true) (h2 : sub b c = true) : sub a c = true := sub_iff.2 fun i h => sub_iff.1 h2 i (sub_iff.1 h1 i h)
theorem sub_zero (x : Int) : sub 0 x = true := sub_iff.2 fun i h => by simp at h
theorem sub_le {a b : Int} (h : sub a b = true) (ha : 0 ≤ a) (hb : 0 ≤ b) : a ≤ b := by
  unfold sub at h
  rw [beq_iff_eq] at h
  have : a.toNat ≤ b.toNat := by rw [← h]; exact Nat.and_le_right
  omega

theorem nodup_le {α : Type} [DecidableEq α] : ∀ (l m : List α), l.Nodup → (∀ x ∈ l, x ∈ m) → l.length ≤ m.length
  | [], _, _, _ => Nat.zero_le _
  | x :: l, m, hn, h => by
    have hx := h x (by simp)
    rw [List.nodup_cons] at hn
    have h1 := nodup_le l (m.erase x) hn.2 fun y hy => (List.mem_erase_of_ne (fun (e : y = x) => hn.1 (e ▸ hy))).2 (h y (List.mem_cons_of_mem _ hy))
    have h2 := List.length_erase_of_mem hx
    have h3 := List.length_pos_of_mem hx
    simp only [List.length_cons]
    omega
theorem same_len {α : Type} [DecidableEq α] {l m : List α} (hl : l.Nodup) (hm : m.Nodup) (h : ∀ x, x ∈ l ↔ x ∈ m) : l.length = m.length :=
  Nat.le_antisymm (nodup_le l m hl fun x hx => (h x).1 hx) (nodup_le m l hm fun x hx => (h x).2 hx)
theorem filter_two {α : Type} (p : α → Bool) : ∀ l : List α, l.length = (l.filter p).length + (l.filter fun x => !p x).length
  | [] => rfl
  | x :: l => by
    have := filter_two p l
    cases h : p x
    all_goals
      simp [h]
      omega

/-- Pairs of members, each within the other. -/
structure Mt (W : List Int) (ps : List (Int × Int)) : Prop where
  low : (ps.map Prod.fst).Nodup
  high : (ps.map Prod.snd).Nodup
  ok : ∀ p ∈ ps, p.1 ∈ W ∧ p.2 ∈ W ∧ p.1 ≠ p.2 ∧ sub p.1 p.2 = true

theorem Mt.of_sub {W V : List Int} {ps : List (Int × Int)} (h : Mt W ps) (hs : ∀ x ∈ W, x ∈ V) : Mt V ps :=
  ⟨h.low, h.high, fun p hp => ⟨hs _ (h.ok p hp).1, hs _ (h.ok p hp).2.1, (h.ok p hp).2.2⟩⟩
theorem Mt.filter {W : List Int} {ps : List (Int × Int)} (h : Mt W ps) (p : Int × Int → Bool) : Mt W (ps.filter p) :=
  ⟨h.low.sublist ((List.filter_sublist).map _), h.high.sublist ((List.filter_sublist).map _), fun q hq => h.ok q (List.mem_filter.1 hq).1⟩
/-- No more than where the ones that are left out, and those that the rest can reach, make a bound. -/
theorem Mt.le {W : List Int} {ps : List (Int × Int)} (h : Mt W ps) (A B : Int → Bool) (hN : ∀ a ∈ W, ∀ b ∈ W, A a = true → a ≠ b → sub a b = true → B b = true) :
    ps.length ≤ (W.filter fun a => !A a).length + (W.filter B).length := by
  have h0 := filter_two (fun p : Int × Int => A p.1) ps
  have h1 := h.filter (fun p => A p.1)
  have h2 := h.filter (fun p => !A p.1)
  have g1 := nodup_le _ (W.filter B) h1.high fun x hx => by
    obtain ⟨p, hp, rfl⟩ := List.mem_map.1 hx
    have hp2 := List.mem_filter.1 hp
    have := h.ok p hp2.1
    exact List.mem_filter.2 ⟨this.2.1, hN _ this.1 _ this.2.1 hp2.2 this.2.2.1 this.2.2.2⟩
  have g2 := nodup_le _ (W.filter fun a => !A a) h2.low fun x hx => by
    obtain ⟨p, hp, rfl⟩ := List.mem_map.1 hx
    have hp2 := List.mem_filter.1 hp
    exact List.mem_filter.2 ⟨(h.ok p hp2.1).1, hp2.2⟩
  rw [List.length_map] at g1 g2
  omega

/-- Pairs of which there are as many as can be. -/
def Top (W : List Int) (ps : List (Int × Int)) : Prop := Mt W ps ∧ ∀ qs, Mt W qs → qs.length ≤ ps.length
theorem Top.same {W V : List Int} {ps qs : List (Int × Int)} (h : Top W ps) (g : Top V qs) (e : ∀ x, x ∈ W ↔ x ∈ V) : ps.length = qs.length :=
  Nat.le_antisymm (g.2 ps (h.1.of_sub fun x hx => (e x).1 hx)) (h.2 qs (g.1.of_sub fun x hx => (e x).2 hx))

/-- How few rows there are: the members, each once, less the pairs. -/
def Rows_ (W : List Int) (n : Nat) : Prop := W.Nodup ∧ ∃ ps, Top W ps ∧ n + ps.length = W.length
theorem Rows_.same {W V : List Int} {n m : Nat} (h : Rows_ W n) (g : Rows_ V m) (e : ∀ x, x ∈ W ↔ x ∈ V) : n = m := by
  obtain ⟨h1, ps, h2, h3⟩ := h
  obtain ⟨g1, qs, g2, g3⟩ := g
  have := h2.same g2 e
  have := same_len h1 g1 e
  omega

/-- What two different sets are to one another. -/
theorem Mt.lt {W : List Int} {ps : List (Int × Int)} (h : Mt W ps) (h0 : ∀ x ∈ W, 0 ≤ x) {p : Int × Int} (hp : p ∈ ps) : p.1 < p.2 := by
  obtain ⟨h1, h2, h3, h4⟩ := h.ok p hp
  have := sub_le h4 (h0 _ h1) (h0 _ h2)
  omega
theorem nodup_inj {α β : Type} {f : α → β} : ∀ {l : List α}, (l.map f).Nodup → ∀ {x y : α}, x ∈ l → y ∈ l → f x = f y → x = y
  | [], _, _, _, hx, _, _ => by cases hx
  | a :: l, hn, x, y, hx, hy, e => by
    rw [List.map_cons, List.nodup_cons] at hn
    rcases List.mem_cons.1 hx with hx1 | hx1
    · rcases List.mem_cons.1 hy with hy1 | hy1
      · rw [hx1, hy1]
      · exact absurd (by rw [← hx1, e]; exact List.mem_map_of_mem hy1) hn.1
    · rcases List.mem_cons.1 hy with hy1 | hy1
      · exact absurd (by rw [← hy1, ← e]; exact List.mem_map_of_mem hx1) hn.1
      · exact nodup_inj hn.2 hx1 hy1 e
theorem nodup_one {α : Type} [DecidableEq α] {l : List α} (h : l.Nodup) (p : α → Bool) (hp : ∀ x ∈ l, ∀ y ∈ l, p x = true → p y = true → x = y) : (l.filter p).length ≤ 1 := by
  cases e : l.filter p with
  | nil => simp
  | cons a r =>
    have ha := List.mem_filter.1 (show a ∈ l.filter p by rw [e]; simp)
    have := nodup_le (l.filter p) [a] (h.sublist List.filter_sublist) fun x hx => by
      have hx := List.mem_filter.1 hx
      simp [hp x hx.1 a ha.1 hx.2 ha.2]
    rw [e] at this
    exact this
theorem Mt.nodup {W : List Int} {ps : List (Int × Int)} (h : Mt W ps) : ps.Nodup := by
  have : ∀ l : List (Int × Int), (l.map Prod.fst).Nodup → l.Nodup := by
    intro l
    induction l with
    | nil => intro _; exact List.nodup_nil
    | cons a l ih =>
      intro hn
      rw [List.map_cons, List.nodup_cons] at hn
      exact List.nodup_cons.2 ⟨fun hm => hn.1 (List.mem_map_of_mem hm), ih hn.2⟩
  exact this ps h.low
/-- Without one member there is at most one pair fewer, where its pairs can be joined. -/
theorem Mt.without {W : List Int} {ps : List (Int × Int)} (h : Mt W ps) (h0 : ∀ x ∈ W, 0 ≤ x) (v : Int) : ∃ qs, Mt (W.filter fun x => x != v) qs ∧ ps.length ≤ qs.length + 1 := by
  have hn := h.nodup
  -- the pairs without v
  have hf : Mt (W.filter fun x => x != v) (ps.filter fun p => p.1 != v && p.2 != v) := by
    have h2 := h.filter (fun p => p.1 != v && p.2 != v)
    refine ⟨h2.low, h2.high, fun p hp => ?_⟩
    have g := h2.ok p hp
    have e := (List.mem_filter.1 hp).2
    simp only [Bool.and_eq_true, bne_iff_ne] at e
    exact ⟨List.mem_filter.2 ⟨g.1, by simpa using e.1⟩, List.mem_filter.2 ⟨g.2.1, by simpa using e.2⟩, g.2.2⟩
  have c0 := filter_two (fun p : Int × Int => p.1 != v && p.2 != v) ps
  have c1 : (ps.filter fun p => !(p.1 != v && p.2 != v)).length ≤ (ps.filter fun p => p.1 == v).length + (ps.filter fun p => p.2 == v).length := by
    have : ∀ l : List (Int × Int), (l.filter fun p => !(p.1 != v && p.2 != v)).length ≤ (l.filter fun p => p.1 == v).length + (l.filter fun p => p.2 == v).length := by
      intro l
      induction l with
      | nil => simp
      | cons a l ih =>
        by_cases e1 : a.1 = v
        all_goals by_cases e2 : a.2 = v
        all_goals
          simp [e1, e2] at ih ⊢
          omega
    exact this ps
  have d1 := nodup_one hn (fun p => p.1 == v) fun x hx y hy e1 e2 => nodup_inj h.low hx hy (by simp at e1 e2; rw [e1, e2])
  have d2 := nodup_one hn (fun p => p.2 == v) fun x hx y hy e1 e2 => nodup_inj h.high hx hy (by simp at e1 e2; rw [e1, e2])
  by_cases k1 : (ps.filter fun p => p.1 == v).length = 0
  · exact ⟨_, hf, by omega⟩
  by_cases k2 : (ps.filter fun p => p.2 == v).length = 0
  · exact ⟨_, hf, by omega⟩
  -- both: a within v within b
  obtain ⟨p, hp⟩ := List.exists_mem_of_length_pos (by omega : 0 < (ps.filter fun p => p.2 == v).length)
  obtain ⟨q, hq⟩ := List.exists_mem_of_length_pos (by omega : 0 < (ps.filter fun p => p.1 == v).length)
  obtain ⟨hp1, hp2⟩ := List.mem_filter.1 hp
  obtain ⟨hq1, hq2⟩ := List.mem_filter.1 hq
  simp only [beq_iff_eq] at hp2 hq2
  have lp := h.lt h0 hp1
  have lq := h.lt h0 hq1
  have op := h.ok p hp1
  have oq := h.ok q hq1
  refine ⟨(p.1, q.2) :: ps.filter (fun p => p.1 != v && p.2 != v), ⟨?_, ?_, ?_⟩, by simp only [List.length_cons]; omega⟩
  · rw [List.map_cons, List.nodup_cons]
    refine ⟨fun hm => ?_, hf.low⟩
    obtain ⟨r, hr, e⟩ := List.mem_map.1 hm
    have hr2 := List.mem_filter.1 hr
    have := nodup_inj h.low hr2.1 hp1 e
    have e3 := hr2.2
    rw [this, hp2] at e3
    simp at e3
  · rw [List.map_cons, List.nodup_cons]
    refine ⟨fun hm => ?_, hf.high⟩
    obtain ⟨r, hr, e⟩ := List.mem_map.1 hm
    have hr2 := List.mem_filter.1 hr
    have := nodup_inj h.high hr2.1 hq1 e
    have e3 := hr2.2
    rw [this, hq2] at e3
    simp at e3
  · intro r hr
    rcases List.mem_cons.1 hr with rfl | hr
    · refine ⟨List.mem_filter.2 ⟨op.1, ?_⟩, List.mem_filter.2 ⟨oq.2.1, ?_⟩, ?_, ?_⟩
      · simp; omega
      · simp; omega
      · show p.1 ≠ q.2
        omega
      · exact sub_trans (hp2 ▸ op.2.2.2) (hq2 ▸ oq.2.2.2)
    · exact hf.ok r hr

/-- One more member: as many rows, or one more. -/
theorem Rows_.more {W V : List Int} {n m : Nat} (h : Rows_ W n) (g : Rows_ V m) (v : Int) (h0 : ∀ x ∈ V, 0 ≤ x) (e : ∀ x, x ∈ V ↔ x = v ∨ x ∈ W) : m = n ∨ m = n + 1 := by
  by_cases hv : v ∈ W
  · refine .inl (g.same h fun x => ?_)
    rw [e]
    exact ⟨fun h => h.elim (fun e => e ▸ hv) id, .inr⟩
  · obtain ⟨h1, ps, h2, h3⟩ := h
    obtain ⟨g1, qs, g2, g3⟩ := g
    have hl : V.length = W.length + 1 := by
      have := same_len g1 (List.nodup_cons.2 ⟨hv, h1⟩) (fun x => by rw [e, List.mem_cons])
      simpa using this
    have k1 := g2.2 ps (h2.1.of_sub fun x hx => (e x).2 (.inr hx))
    obtain ⟨rs, r1, r2⟩ := g2.1.without h0 v
    have k2 := h2.2 rs (r1.of_sub fun x hx => by
      have := List.mem_filter.1 hx
      rcases (e x).1 this.1 with rfl | h
      · simp at this
      · exact h)
    omega

/-- Members of which no two are within one another, and nought. -/
theorem Rows_.apart {W : List Int} {n : Nat} (h : Rows_ W n) (h0 : 0 ∈ W) (h1 : ∀ a ∈ W, ∀ b ∈ W, a ≠ 0 → a ≠ b → sub a b = false) (h2 : 2 ≤ W.length) : n + 1 = W.length := by
  obtain ⟨hn, ps, ht, hl⟩ := h
  have k1 := ht.1.le (fun a => a != 0) (fun _ => false) fun a ha b hb hA hne hs => by
    have := h1 a ha b hb (by simpa using hA) hne
    rw [this] at hs; cases hs
  have k2 : (W.filter fun a => !(a != 0)).length ≤ 1 := nodup_one hn _ fun x _ y _ e1 e2 => by simp at e1 e2; rw [e1, e2]
  have k3 : (W.filter fun _ => false).length = 0 := by simp
  obtain ⟨x, hx, hx0⟩ : ∃ x ∈ W, x ≠ 0 := by
    rcases Classical.em (∃ x ∈ W, x ≠ 0) with h | h
    · exact h
    · exfalso
      have := nodup_le W [0] hn fun x hx => by
        have : x = 0 := Classical.byContradiction fun e => h ⟨x, hx, e⟩
        simp [this]
      simp at this
      omega
  have k4 := ht.2 [(0, x)] ⟨by simp, by simp, fun p hp => by
    obtain rfl : p = (0, x) := by simpa using hp
    exact ⟨h0, hx, fun e => hx0 e.symm, sub_zero x⟩⟩
  simp at k4
  omega
/-- The pairs of neighbours. -/
def nexts : List Int → List (Int × Int)
  | a :: b :: r => (a, b) :: nexts (b :: r)
  | _ => []
theorem nexts_fst : ∀ l : List Int, ∀ p ∈ nexts l, p.1 ∈ l ∧ p.2 ∈ l.tail
  | [], _, h => by cases h
  | [_], _, h => by cases h
  | a :: b :: r, p, h => by
    rcases List.mem_cons.1 h with rfl | h
    · simp
    · have := nexts_fst (b :: r) p h
      exact ⟨List.mem_cons_of_mem _ this.1, List.mem_cons_of_mem _ this.2⟩
theorem nexts_len : ∀ l : List Int, (nexts l).length + 1 = max l.length 1
  | [] => rfl
  | [_] => rfl
  | a :: b :: r => by
    have := nexts_len (b :: r)
    simp only [nexts, List.length_cons] at this ⊢
    omega
theorem nexts_mt : ∀ l : List Int, l.Pairwise (fun a b => a < b ∧ sub a b = true) → Mt l (nexts l)
  | [], _ => ⟨by simp [nexts], by simp [nexts], fun p h => by cases h⟩
  | [_], _ => ⟨by simp [nexts], by simp [nexts], fun p h => by cases h⟩
  | a :: b :: r, h => by
    rw [List.pairwise_cons] at h
    have ih := nexts_mt (b :: r) h.2
    refine ⟨?_, ?_, ?_⟩
    · simp only [nexts, List.map_cons, List.nodup_cons]
      refine ⟨fun hm => ?_, ih.low⟩
      obtain ⟨p, hp, e⟩ := List.mem_map.1 hm
      have := (h.1 _ (nexts_fst _ p hp).1).1
      omega
    · simp only [nexts, List.map_cons, List.nodup_cons]
      refine ⟨fun hm => ?_, ih.high⟩
      obtain ⟨p, hp, e⟩ := List.mem_map.1 hm
      have := ((List.pairwise_cons.1 h.2).1 _ (nexts_fst _ p hp).2).1
      omega
    · intro p hp
      rcases List.mem_cons.1 hp with rfl | hp
      · have := h.1 b (by simp)
        exact ⟨by simp, by simp, by show a ≠ b; omega, this.2⟩
      · have := ih.ok p hp
        exact ⟨List.mem_cons_of_mem _ this.1, List.mem_cons_of_mem _ this.2.1, this.2.2⟩
/-- A row of growing ones. -/
theorem Rows_.row {W : List Int} {n : Nat} (h : Rows_ W n) (hn : W.Pairwise (fun a b => a < b)) (h0 : ∀ x ∈ W, 0 ≤ x) (h1 : ∀ a ∈ W, ∀ b ∈ W, a < b → sub a b = true) (h2 : 1 ≤ W.length) : n = 1 := by
  obtain ⟨_, ps, ht, hl⟩ := h
  have k1 := ht.2 _ (nexts_mt W (by
    refine hn.imp_of_mem ?_
    intro a b ha hb h
    exact ⟨h, h1 a ha b hb h⟩))
  have k2 := nexts_len W
  cases W with
  | nil => simp at h2
  | cons a r =>
    -- the first one is no other's
    have := nodup_le _ r ht.1.high fun x hx => by
      obtain ⟨p, hp, rfl⟩ := List.mem_map.1 hx
      have o := ht.1.ok p hp
      have l := ht.1.lt h0 hp
      rcases List.mem_cons.1 o.2.1 with e | e
      · rcases List.mem_cons.1 o.1 with e2 | e2
        · omega
        · have := (List.pairwise_cons.1 hn).1 _ e2
          omega
      · exact e
    simp only [List.length_map, List.length_cons] at *
    omega
/-- Nought makes no further row. -/
theorem Rows_.nought {U W : List Int} {n : Nat} {ps : List (Int × Int)} (h : Rows_ W n) (hU : U.Nodup) (ht : Top U ps) (h0 : ∀ x ∈ W, 0 ≤ x) (hz : ¬ (0 : Int) ∈ U) (e : ∀ x, x ∈ W ↔ x = 0 ∨ x ∈ U) : n = max (U.length - ps.length) 1 ∧ ps.length ≤ U.length := by
  obtain ⟨hn, qs, hq, hl⟩ := h
  have hl2 : W.length = U.length + 1 := by
    have := same_len hn (List.nodup_cons.2 ⟨hz, hU⟩) (fun x => by rw [e, List.mem_cons])
    simpa using this
  have hps : ps.length ≤ U.length := by
    have := nodup_le _ U ht.1.low fun x hx => by
      obtain ⟨p, hp, rfl⟩ := List.mem_map.1 hx
      exact (ht.1.ok p hp).1
    simpa using this
  refine ⟨?_, hps⟩
  obtain ⟨rs, r1, r2⟩ := hq.1.without h0 0
  have k2 := ht.2 rs (r1.of_sub fun x hx => by
      have := List.mem_filter.1 hx
      rcases (e x).1 this.1 with rfl | h
      · simp at this
      · exact h)
  cases hU2 : U with
  | nil =>
    subst hU2
    have := nodup_le _ ([] : List Int) hq.1.high fun x hx => by
      obtain ⟨p, hp, rfl⟩ := List.mem_map.1 hx
      have o := hq.1.ok p hp
      have l := hq.1.lt h0 hp
      have a1 := h0 _ o.1
      rcases (e _).1 o.2.1 with e | e
      · omega
      · cases e
    simp at this hps hl2 ⊢
    rw [this] at hl
    simp at hl
    omega
  | cons a r =>
    -- the least one is no other's
    obtain ⟨u, hu, hmin⟩ : ∃ u ∈ U, ∀ x ∈ U, u ≤ x := by
      have : ∀ l : List Int, l ≠ [] → ∃ u ∈ l, ∀ x ∈ l, u ≤ x := by
        intro l
        induction l with
        | nil => intro h; exact absurd rfl h
        | cons a l ih =>
          intro _
          by_cases hl : l = []
          · subst hl; exact ⟨a, by simp, by simp⟩
          · obtain ⟨u, hu, hm⟩ := ih hl
            by_cases g : a ≤ u
            · exact ⟨a, by simp, fun x hx => by rcases List.mem_cons.1 hx with rfl | hx; omega; have := hm x hx; omega⟩
            · exact ⟨u, List.mem_cons_of_mem _ hu, fun x hx => by rcases List.mem_cons.1 hx with rfl | hx; omega; exact hm x hx⟩
      exact this U (by rw [hU2]; simp)
    have hu0 : u ≠ 0 := fun e => hz (e ▸ hu)
    have k1 := hq.2 ((0, u) :: ps) ⟨?_, ?_, ?_⟩
    · rw [← hU2]
      have : 1 ≤ U.length := by rw [hU2]; simp
      have hlt : ps.length + 1 ≤ U.length := by
        have := nodup_le _ (U.erase u) ht.1.high fun x hx => by
          obtain ⟨p, hp, rfl⟩ := List.mem_map.1 hx
          have o := ht.1.ok p hp
          have l := ht.1.lt (fun x hx => h0 x ((e x).2 (.inr hx))) hp
          have := hmin _ o.1
          exact (List.mem_erase_of_ne (by omega)).2 o.2.1
        have h5 := List.length_erase_of_mem hu
        simp only [List.length_map] at this
        omega
      simp only [List.length_cons] at k1
      omega
    · rw [List.map_cons, List.nodup_cons]
      refine ⟨fun hm => ?_, ht.1.low⟩
      obtain ⟨p, hp, e2⟩ := List.mem_map.1 hm
      have e3 : p.1 = 0 := e2
      exact hz (e3 ▸ (ht.1.ok p hp).1)
    · rw [List.map_cons, List.nodup_cons]
      refine ⟨fun hm => ?_, ht.1.high⟩
      obtain ⟨p, hp, e2⟩ := List.mem_map.1 hm
      have o := ht.1.ok p hp
      have l := ht.1.lt (fun x hx => h0 x ((e x).2 (.inr hx))) hp
      have := hmin _ o.1
      have e3 : p.2 = u := e2
      omega
    · intro p hp
      rcases List.mem_cons.1 hp with rfl | hp
      · exact ⟨(e 0).2 (.inl rfl), (e u).2 (.inr hu), fun e => hu0 e.symm, sub_zero u⟩
      · have o := ht.1.ok p hp
        exact ⟨(e _).2 (.inr o.1), (e _).2 (.inr o.2.1), o.2.2⟩
end Go.Proofs.YthcljhfankooaabGreat.C

namespace Go.Proofs.YthcljhfankooaabGreat.C

/-- One place turned. -/
def upd (f : Nat → Int) (k : Nat) (x : Int) : Nat → Int := fun j => if j = k then x else f j
theorem upd_self (f : Nat → Int) (k : Nat) (x : Int) : upd f k x k = x := if_pos rfl
theorem upd_ne (f : Nat → Int) (x : Int) {k j : Nat} (h : j ≠ k) : upd f k x j = f j := if_neg h

/-- Each has at most one below it, and none is below two. -/
structure PB (N : Nat) (E : Nat → Nat → Prop) (be : Nat → Int) : Prop where
  ok : ∀ k, k < N → be k = -1 ∨ ∃ i : Nat, i < N ∧ be k = i ∧ E i k
  inj : ∀ k j, k < N → j < N → be k = be j → be k ≠ -1 → k = j
/-- Where nothing can be found any more. -/
structure Dead (N : Nat) (E : Nat → Nat → Prop) (be : Nat → Int) (A B : Nat → Prop) : Prop where
  nb : ∀ i, i < N → A i → ∀ k, k < N → E i k → B k
  md : ∀ k, k < N → B k → ∃ i : Nat, i < N ∧ be k = i ∧ A i

theorem Dead.join {N : Nat} {E : Nat → Nat → Prop} {be : Nat → Int} {A B A' B' : Nat → Prop} (h : Dead N E be A B) (g : Dead N E be A' B') : Dead N E be (fun i => A i ∨ A' i) (fun k => B k ∨ B' k) where
  nb i hi ha k hk he := ha.elim (fun a => .inl (h.nb i hi a k hk he)) (fun a => .inr (g.nb i hi a k hk he))
  md k hk hb := hb.elim (fun b => by obtain ⟨i, h1, h2, h3⟩ := h.md k hk b; exact ⟨i, h1, h2, .inl h3⟩) (fun b => by obtain ⟨i, h1, h2, h3⟩ := g.md k hk b; exact ⟨i, h1, h2, .inr h3⟩)
theorem Dead.turned {N : Nat} {E : Nat → Nat → Prop} {be be' : Nat → Int} {A B : Nat → Prop} (h : Dead N E be A B) (e : ∀ k, k < N → B k → be' k = be k) : Dead N E be' A B where
  nb := h.nb
  md k hk hb := by rw [e k hk hb]; exact h.md k hk hb

/-- The places that have one below them. -/
def hads (N : Nat) (be : Nat → Int) : List Nat := (List.range N).filter fun k => be k != -1
theorem mem_hads {N : Nat} {be : Nat → Int} {k : Nat} : k ∈ hads N be ↔ k < N ∧ be k ≠ -1 := by
  rw [hads, List.mem_filter, List.mem_range, bne_iff_ne]
theorem hads_nodup (N : Nat) (be : Nat → Int) : (hads N be).Nodup := List.nodup_range.sublist List.filter_sublist
theorem map_nodup {α β : Type} {f : α → β} : ∀ {l : List α}, l.Nodup → (∀ x ∈ l, ∀ y ∈ l, f x = f y → x = y) → (l.map f).Nodup
  | [], _, _ => by simp
  | a :: l, hn, h => by
    rw [List.nodup_cons] at hn
    rw [List.map_cons, List.nodup_cons]
    refine ⟨fun hm => ?_, map_nodup hn.2 fun x hx y hy e => h x (List.mem_cons_of_mem _ hx) y (List.mem_cons_of_mem _ hy) e⟩
    obtain ⟨x, hx, e⟩ := List.mem_map.1 hm
    have := h x (List.mem_cons_of_mem _ hx) a (by simp) e
    exact hn.1 (this ▸ hx)
/-- Those that are below. -/
def lows (N : Nat) (be : Nat → Int) : List Nat := (hads N be).map fun k => (be k).toNat
theorem PB.back {N : Nat} {E : Nat → Nat → Prop} {be : Nat → Int} (h : PB N E be) {k : Nat} (hk : k ∈ hads N be) : ∃ i : Nat, i < N ∧ be k = i ∧ E i k := by
  have := mem_hads.1 hk
  exact (h.ok k this.1).resolve_left this.2
theorem PB.lows_nodup {N : Nat} {E : Nat → Nat → Prop} {be : Nat → Int} (h : PB N E be) : (lows N be).Nodup := by
  refine map_nodup (hads_nodup N be) fun k hk j hj e => ?_
  obtain ⟨i, _, e1, _⟩ := h.back hk
  obtain ⟨i2, _, e2, _⟩ := h.back hj
  have a := mem_hads.1 hk
  have b := mem_hads.1 hj
  exact h.inj k j a.1 b.1 (by rw [e1, e2] at e ⊢; simp only [Int.toNat_natCast] at e; rw [e]) a.2
theorem PB.mem_lows {N : Nat} {E : Nat → Nat → Prop} {be : Nat → Int} (h : PB N E be) {i : Nat} : i ∈ lows N be ↔ ∃ k, k < N ∧ be k = i := by
  rw [lows, List.mem_map]
  constructor
  · rintro ⟨k, hk, e⟩
    obtain ⟨j, _, e1, _⟩ := h.back hk
    rw [e1] at e
    simp only [Int.toNat_natCast] at e
    exact ⟨k, (mem_hads.1 hk).1, by rw [e1, e]⟩
  · rintro ⟨k, hk, e⟩
    exact ⟨k, mem_hads.2 ⟨hk, by omega⟩, by rw [e]; simp⟩
theorem lows_length (N : Nat) (be : Nat → Int) : (lows N be).length = (hads N be).length := by simp [lows]

/-- The searches that places stand for. -/
def vals (N : Nat) (w : Nat → Int) : List Int := (List.range N).map w
theorem mem_vals {N : Nat} {w : Nat → Int} {x : Int} : x ∈ vals N w ↔ ∃ i, i < N ∧ w i = x := by
  rw [vals, List.mem_map]
  exact ⟨fun ⟨i, h, e⟩ => ⟨i, List.mem_range.1 h, e⟩, fun ⟨i, h, e⟩ => ⟨i, List.mem_range.2 h, e⟩⟩
theorem vals_nodup {N : Nat} {w : Nat → Int} (hw : ∀ i j, i < N → j < N → w i = w j → i = j) : (vals N w).Nodup :=
  map_nodup List.nodup_range fun i hi j hj e => hw i j (List.mem_range.1 hi) (List.mem_range.1 hj) e
theorem vals_length (N : Nat) (w : Nat → Int) : (vals N w).length = N := by simp [vals]
/-- One is within another one. -/
def In (w : Nat → Int) (i k : Nat) : Prop := i ≠ k ∧ sub (w i) (w k) = true

open Classical in
/-- Pairs behind which nothing is found are as many as can be. -/
theorem PB.top {N : Nat} {w : Nat → Int} {be : Nat → Int} {A B : Nat → Prop} (h : PB N (In w) be) (hw : ∀ i j, i < N → j < N → w i = w j → i = j) (hD : Dead N (In w) be A B) (hA : ∀ i, i < N → A i ∨ ∃ k, k < N ∧ be k = i) :
    ∃ ps, Top (vals N w) ps ∧ ps.length = (hads N be).length := by
  refine ⟨(hads N be).map fun k => (w (be k).toNat, w k), ⟨⟨?_, ?_, ?_⟩, ?_⟩, by simp⟩
  · rw [List.map_map]
    refine map_nodup (hads_nodup N be) fun k hk j hj e => ?_
    obtain ⟨i, hi, e1, _⟩ := h.back hk
    obtain ⟨i2, hi2, e2, _⟩ := h.back hj
    have a := mem_hads.1 hk
    have b := mem_hads.1 hj
    simp only [Function.comp, e1, e2, Int.toNat_natCast] at e
    exact h.inj k j a.1 b.1 (by rw [e1, e2, hw i i2 hi hi2 e]) a.2
  · rw [List.map_map]
    exact map_nodup (hads_nodup N be) fun k hk j hj e => hw k j (mem_hads.1 hk).1 (mem_hads.1 hj).1 e
  · intro p hp
    obtain ⟨k, hk, rfl⟩ := List.mem_map.1 hp
    obtain ⟨i, hi, e1, h1, h2⟩ := h.back hk
    have hk2 := (mem_hads.1 hk).1
    simp only [e1, Int.toNat_natCast]
    exact ⟨mem_vals.2 ⟨i, hi, rfl⟩, mem_vals.2 ⟨k, hk2, rfl⟩, fun e => h1 (hw i k hi hk2 e), h2⟩
  · intro qs hq
    refine Nat.le_trans (hq.le (fun x => decide (∃ i, i < N ∧ w i = x ∧ A i)) (fun x => decide (∃ k, k < N ∧ w k = x ∧ B k)) ?_) ?_
    · intro a ha b hb hA hne hs
      simp only [decide_eq_true_eq] at hA ⊢
      obtain ⟨i, hi, rfl, hAi⟩ := hA
      obtain ⟨k, hk, rfl⟩ := mem_vals.1 hb
      exact ⟨k, hk, rfl, hD.nb i hi hAi k hk ⟨fun e => hne (by rw [e]), hs⟩⟩
    · have e1 : ((vals N w).filter fun a => !decide (∃ i, i < N ∧ w i = a ∧ A i)).length = ((List.range N).filter fun i => !decide (A i)).length := by
        rw [vals, List.filter_map, List.length_map]
        congr 1
        refine List.filter_congr fun i hi => ?_
        have hi := List.mem_range.1 hi
        simp only [Function.comp]
        congr 1
        refine decide_eq_decide.2 ⟨fun ⟨j, hj, e, a⟩ => hw j i hj hi e ▸ a, fun a => ⟨i, hi, rfl, a⟩⟩
      have e2 : ((vals N w).filter fun a => decide (∃ k, k < N ∧ w k = a ∧ B k)).length = ((List.range N).filter fun k => decide (B k)).length := by
        rw [vals, List.filter_map, List.length_map]
        congr 1
        refine List.filter_congr fun i hi => ?_
        have hi := List.mem_range.1 hi
        simp only [Function.comp]
        refine decide_eq_decide.2 ⟨fun ⟨j, hj, e, a⟩ => hw j i hj hi e ▸ a, fun a => ⟨i, hi, rfl, a⟩⟩
      rw [e1, e2, List.length_map, ← lows_length]
      have hb : ∀ k ∈ (List.range N).filter (fun k => decide (B k)), ∃ i : Nat, i < N ∧ be k = i ∧ A i := fun k hk => by
        have := List.mem_filter.1 hk
        exact hD.md k (List.mem_range.1 this.1) (by simpa using this.2)
      have := nodup_le (((List.range N).filter fun i => !decide (A i)) ++ (((List.range N).filter fun k => decide (B k)).map fun k => (be k).toNat)) (lows N be) ?_ ?_
      · simpa using this
      · rw [List.nodup_append]
        refine ⟨List.nodup_range.sublist List.filter_sublist, ?_, ?_⟩
        · refine map_nodup (List.nodup_range.sublist List.filter_sublist) fun k hk j hj e => ?_
          obtain ⟨i, hi, e1, _⟩ := hb k hk
          obtain ⟨i2, hi2, e2, _⟩ := hb j hj
          rw [e1, e2] at e
          simp only [Int.toNat_natCast] at e
          exact h.inj k j (List.mem_range.1 (List.mem_filter.1 hk).1) (List.mem_range.1 (List.mem_filter.1 hj).1) (by rw [e1, e2, e]) (by omega)
        · intro a ha b hb2 e
          obtain ⟨k, hk, e3⟩ := List.mem_map.1 hb2
          obtain ⟨i, hi, e1, hAi⟩ := hb k hk
          rw [e1] at e3
          simp only [Int.toNat_natCast] at e3
          have := (List.mem_filter.1 ha).2
          rw [e, ← e3] at this
          simp [hAi] at this
      · intro x hx
        rcases List.mem_append.1 hx with hx | hx
        · have hx2 := List.mem_filter.1 hx
          have := (hA x (List.mem_range.1 hx2.1)).resolve_left (by simpa using hx2.2)
          exact h.mem_lows.2 this
        · obtain ⟨k, hk, e3⟩ := List.mem_map.1 hx
          obtain ⟨i, hi, e1, hAi⟩ := hb k hk
          rw [e1] at e3
          simp only [Int.toNat_natCast] at e3
          exact h.mem_lows.2 ⟨k, List.mem_range.1 (List.mem_filter.1 hk).1, by rw [e1, e3]⟩

/-- Both sides of the pairs. -/
structure PM (N : Nat) (E : Nat → Nat → Prop) (ab be : Nat → Int) : Prop where
  up : ∀ i, i < N → ab i = -1 ∨ ∃ k : Nat, k < N ∧ ab i = k ∧ be k = i ∧ E i k
  dn : ∀ k, k < N → be k = -1 ∨ ∃ i : Nat, i < N ∧ be k = i ∧ ab i = k
theorem PM.pb {N : Nat} {E : Nat → Nat → Prop} {ab be : Nat → Int} (h : PM N E ab be) : PB N E be where
  ok k hk := (h.dn k hk).imp id fun ⟨i, hi, e1, e2⟩ => by
    rcases h.up i hi with e | ⟨k2, _, e3, _, e5⟩
    · omega
    · have : k2 = k := by omega
      subst this
      exact ⟨i, hi, e1, e5⟩
  inj k j hk hj e hne := by
    obtain ⟨i, _, e1, e2⟩ := (h.dn k hk).resolve_left hne
    obtain ⟨i2, _, e3, e4⟩ := (h.dn j hj).resolve_left (e ▸ hne)
    have : i = i2 := by omega
    subst this
    omega
/-- Behind the first of them. -/
def Done (N : Nat) (E : Nat → Nat → Prop) (ab be : Nat → Int) (low : Nat) : Prop :=
  PM N E ab be ∧ (∃ A B, Dead N E be A B ∧ ∀ i, i < low → ab i = -1 → A i) ∧ ∀ i, low ≤ i → i < N → ab i = -1

theorem Done.start (N : Nat) (E : Nat → Nat → Prop) : Done N E (fun _ => -1) (fun _ => -1) 0 :=
  ⟨⟨fun _ _ => .inl rfl, fun _ _ => .inl rfl⟩, ⟨fun _ => False, fun _ => False, ⟨fun _ _ h => h.elim, fun _ _ h => h.elim⟩, fun i h => by omega⟩, fun _ _ _ => rfl⟩

/-- One that was met: the one for which the asking began, or one that is paired with what was asked for. -/
def Met (N : Nat) (be as : Nat → Int) (low v : Nat) : Prop := v = low ∨ ∃ h : Nat, h < N ∧ be h = v ∧ as h ≠ -1
/-- While one is sought: what was asked for, by whom, and who still asks. -/
structure Seek (N : Nat) (E : Nat → Nat → Prop) (ab be as : Nat → Int) (low : Nat) (rk : Nat → Nat) (t : Nat) (path : List Nat) : Prop where
  asked : ∀ h, h < N → as h = -1 ∨ ∃ v : Nat, v < N ∧ as h = v ∧ E v h ∧ (v = low ∨ ∃ j : Nat, j < N ∧ be j = v ∧ as j ≠ -1 ∧ rk j < rk h) ∧ rk h < t
  taken : ∀ h, h < N → as h ≠ -1 → be h ≠ -1
  row : ∀ v ∈ path, v < N ∧ Met N be as low v
  shut : ∀ v, v < N → Met N be as low v → v ∈ path ∨ ∀ h, h < N → E v h → as h ≠ -1
/-- How many were not asked for. -/
def free (N : Nat) (as : Nat → Int) : Nat := ((List.range N).filter fun h => as h == -1).length
theorem filter_upd (l : List Nat) (hn : l.Nodup) (as : Nat → Int) (h : Nat) (x : Int) (hl : h ∈ l) (h1 : as h = -1) (hx : x ≠ -1) : (l.filter fun j => upd as h x j == -1).length + 1 = (l.filter fun j => as j == -1).length := by
  induction l with
  | nil => cases hl
  | cons a l ih =>
    rw [List.nodup_cons] at hn
    by_cases e : a = h
    · subst e
      have : l.filter (fun j => upd as a x j == -1) = l.filter (fun j => as j == -1) := List.filter_congr fun j hj => by
        rw [upd_ne as x (fun e : j = a => hn.1 (e ▸ hj))]
      rw [List.filter_cons_of_neg (by rw [upd_self]; simpa using hx), List.filter_cons_of_pos (by simpa using h1), this]
      rfl
    · have := ih hn.2 ((List.mem_cons.1 hl).resolve_left fun e2 => e e2.symm)
      by_cases g : as a = -1
      · rw [List.filter_cons_of_pos (by rw [upd_ne as x e]; simpa using g), List.filter_cons_of_pos (by simpa using g)]
        simp only [List.length_cons]; omega
      · rw [List.filter_cons_of_neg (by rw [upd_ne as x e]; simpa using g), List.filter_cons_of_neg (by simpa using g)]
        exact this
theorem free_upd {N : Nat} {as : Nat → Int} {h : Nat} {x : Int} (hN : h < N) (h1 : as h = -1) (hx : x ≠ -1) : free N (upd as h x) + 1 = free N as :=
  filter_upd (List.range N) List.nodup_range as h x (List.mem_range.2 hN) h1 hx
theorem free_none (N : Nat) : free N (fun _ => -1) = N := by
  have : (List.range N).filter (fun _ => (-1 : Int) == -1) = List.range N := List.filter_eq_self.2 fun _ _ => rfl
  rw [free, this, List.length_range]
theorem Seek.start {N : Nat} {E : Nat → Nat → Prop} {ab be : Nat → Int} {low : Nat} (hl : low < N) : Seek N E ab be (fun _ => -1) low (fun _ => 0) 0 [low] where
  asked _ _ := .inl rfl
  taken _ _ h := absurd rfl h
  row v hv := by
    obtain rfl : v = low := by simpa using hv
    exact ⟨hl, .inl rfl⟩
  shut v _ hm := hm.elim (fun e => .inl (by simp [e])) (fun ⟨_, _, _, h⟩ => absurd rfl h)
theorem Met.upd {N : Nat} {be as : Nat → Int} {low v h : Nat} {x : Int} (hx : x ≠ -1) (hm : Met N be as low v) : Met N be (upd as h x) low v := by
  rcases hm with e | ⟨j, h1, h2, h3⟩
  · exact .inl e
  · refine .inr ⟨j, h1, h2, ?_⟩
    by_cases e : j = h
    · subst e; rw [upd_self]; exact hx
    · rw [upd_ne as x e]; exact h3
/-- The next one is asked for, and it is taken. -/
theorem Seek.push {N : Nat} {E : Nat → Nat → Prop} {ab be as : Nat → Int} {low : Nat} {rk : Nat → Nat} {t : Nat} {path : List Nat} {last h u : Nat} (s : Seek N E ab be as low rk t path) (hlast : last ∈ path) (hh : h < N) (h1 : as h = -1) (hE : E last h) (hu : u < N) (hbe : be h = u) :
    Seek N E ab be (upd as h last) low (fun j => if j = h then t else rk j) (t + 1) (path ++ [u]) := by
  have hx : ((last : Nat) : Int) ≠ -1 := by omega
  obtain ⟨hl, hm⟩ := s.row last hlast
  refine ⟨fun k hk => ?_, fun k hk hn => ?_, fun v hv => ?_, fun v hv hmv => ?_⟩
  · by_cases e : k = h
    · subst e
      refine .inr ⟨last, hl, by rw [upd_self], hE, ?_, by rw [if_pos rfl]; omega⟩
      rcases hm with e | ⟨j, j1, j2, j3⟩
      · exact .inl e
      · have hjk : j ≠ k := fun e => j3 (e ▸ h1)
        refine .inr ⟨j, j1, j2, by rw [upd_ne as _ hjk]; exact j3, ?_⟩
        rw [if_neg hjk, if_pos rfl]
        obtain ⟨v, _, _, _, _, r⟩ := (s.asked j j1).resolve_left j3
        exact r
    · rw [upd_ne as _ e, if_neg e]
      refine (s.asked k hk).imp id fun ⟨v, v1, v2, v3, v4, v5⟩ => ⟨v, v1, v2, v3, v4.imp id fun ⟨j, j1, j2, j3, j4⟩ => ?_, by omega⟩
      have hjk : j ≠ h := fun e => j3 (e ▸ h1)
      exact ⟨j, j1, j2, by rw [upd_ne as _ hjk]; exact j3, by rw [if_neg hjk]; exact j4⟩
  · by_cases e : k = h
    · subst e; rw [hbe]; omega
    · rw [upd_ne as _ e] at hn; exact s.taken k hk hn
  · rcases List.mem_append.1 hv with hv | hv
    · exact ⟨(s.row v hv).1, (s.row v hv).2.upd hx⟩
    · obtain rfl : v = u := by simpa using hv
      exact ⟨hu, .inr ⟨h, hh, hbe, by rw [upd_self]; exact hx⟩⟩
  · by_cases e : v = u
    · exact .inl (by rw [e]; simp)
    · have hm2 : Met N be as low v := by
        rcases hmv with e2 | ⟨j, j1, j2, j3⟩
        · exact .inl e2
        · by_cases e3 : j = h
          · subst e3; exact absurd (by omega) e
          · rw [upd_ne as _ e3] at j3; exact .inr ⟨j, j1, j2, j3⟩
      rcases s.shut v hv hm2 with g | g
      · exact .inl (List.mem_append_left _ g)
      · refine .inr fun k hk hEk => ?_
        by_cases e3 : k = h
        · subst e3; rw [upd_self]; exact hx
        · rw [upd_ne as _ e3]; exact g k hk hEk
/-- Who finds no other one. -/
theorem Seek.pop {N : Nat} {E : Nat → Nat → Prop} {ab be as : Nat → Int} {low : Nat} {rk : Nat → Nat} {t : Nat} {path : List Nat} {last : Nat} (s : Seek N E ab be as low rk t (path ++ [last])) (hno : ∀ h, h < N → E last h → as h ≠ -1) : Seek N E ab be as low rk t path where
  asked := s.asked
  taken := s.taken
  row v hv := s.row v (List.mem_append_left _ hv)
  shut v hv hm := by
    rcases s.shut v hv hm with g | g
    · rcases List.mem_append.1 g with g | g
      · exact .inl g
      · obtain rfl : v = last := by simpa using g
        exact .inr hno
    · exact .inr g
/-- Nothing was found. -/
theorem Done.fail {N : Nat} {E : Nat → Nat → Prop} {ab be as : Nat → Int} {low : Nat} {rk : Nat → Nat} {t : Nat} (d : Done N E ab be low) (s : Seek N E ab be as low rk t []) : Done N E ab be (low + 1) := by
  obtain ⟨h1, ⟨A, B, h2, h3⟩, h4⟩ := d
  have hd : Dead N E be (fun v => Met N be as low v) (fun h => as h ≠ -1) := ⟨fun i hi hm k hk hE => ((s.shut i hi hm).resolve_left (by simp)) k hk hE, fun k hk hb => by
    obtain ⟨i, i1, i2, _⟩ := (h1.dn k hk).resolve_left (s.taken k hk hb)
    exact ⟨i, i1, i2, .inr ⟨k, hk, i2, hb⟩⟩⟩
  refine ⟨h1, ⟨_, _, h2.join hd, fun i hi e => ?_⟩, fun i hi => h4 i (by omega)⟩
  by_cases g : i = low
  · exact .inr (.inl g)
  · exact .inl (h3 i (by omega) e)
/-- While they give way. -/
structure Give (N : Nat) (E : Nat → Nat → Prop) (ab0 be0 as : Nat → Int) (low : Nat) (rk : Nat → Nat) (A B : Nat → Prop) (ab be : Nat → Int) (k : Nat) : Prop where
  lt : k < N
  ask : ∃ v : Nat, v < N ∧ as k = v ∧ E v k ∧ (v = low ∨ ∃ j : Nat, j < N ∧ be0 j = v ∧ as j ≠ -1 ∧ rk j < rk k)
  lone : ab low = -1
  up : ∀ i, i < N → ab i = -1 ∨ ∃ j : Nat, j < N ∧ j ≠ k ∧ ab i = j ∧ be j = i ∧ E i j
  dn : ∀ j, j < N → j ≠ k → be j = -1 ∨ ∃ i : Nat, i < N ∧ be j = i ∧ ab i = j
  old : ∀ j, j < N → as j ≠ -1 → rk j < rk k → be j = be0 j
  dead : ¬ B k ∧ ∀ j, j < N → B j → be j = be0 j
  keep : ∀ i, i < N → i ≠ low → ab0 i ≠ -1 → ab i ≠ -1
  new : ∀ i, i < N → i ≠ low → ab0 i = -1 → ab i = -1
theorem Done.found {N : Nat} {E : Nat → Nat → Prop} {ab be as : Nat → Int} {low : Nat} {rk : Nat → Nat} {t : Nat} {path : List Nat} {last h : Nat} (d : Done N E ab be low) (s : Seek N E ab be as low rk t path) (hlow : low < N) (hlast : last ∈ path) (hh : h < N) (h1 : as h = -1) (hE : E last h) (hbe : be h = -1) :
    ∃ A B, Dead N E be A B ∧ (∀ i, i < low → ab i = -1 → A i) ∧ Give N E ab be (upd as h last) low (fun j => if j = h then t else rk j) A B ab be h := by
  obtain ⟨p, ⟨A, B, h2, h3⟩, h4⟩ := d
  refine ⟨A, B, h2, h3, hh, ?_, h4 low (Nat.le_refl _) hlow, fun i hi => ?_, fun j hj _ => p.dn j hj, fun _ _ _ _ => rfl, ⟨fun hb => ?_, fun _ _ _ => rfl⟩, fun _ _ _ h => h, fun _ _ _ h => h⟩
  · obtain ⟨hl, hm⟩ := s.row last hlast
    refine ⟨last, hl, by rw [upd_self], hE, ?_⟩
    rcases hm with e | ⟨j, j1, j2, j3⟩
    · exact .inl e
    · have hjk : j ≠ h := fun e => j3 (e ▸ h1)
      refine .inr ⟨j, j1, j2, by rw [upd_ne as _ hjk]; exact j3, ?_⟩
      rw [if_neg hjk, if_pos rfl]
      obtain ⟨v, _, _, _, _, r⟩ := (s.asked j j1).resolve_left j3
      exact r
  · refine (p.up i hi).imp id fun ⟨j, j1, j2, j3, j4⟩ => ⟨j, j1, fun e => ?_, j2, j3, j4⟩
    subst e; omega
  · obtain ⟨i, _, e, _⟩ := h2.md h hh hb
    omega
/-- The one for which it began. -/
theorem Give.last {N : Nat} {E : Nat → Nat → Prop} {ab0 be0 as : Nat → Int} {low : Nat} {rk : Nat → Nat} {A B : Nat → Prop} {ab be : Nat → Int} {k : Nat} (g : Give N E ab0 be0 as low rk A B ab be k) (hlow : low < N) (hD : Dead N E be0 A B) (h3 : ∀ i, i < low → ab0 i = -1 → A i) (h4 : ∀ i, low ≤ i → i < N → ab0 i = -1) (e : as k = low) :
    Done N E (upd ab low k) (upd be k low) (low + 1) := by
  obtain ⟨v, v1, v2, v3, v4⟩ := g.ask
  have : v = low := by omega
  subst this
  refine ⟨⟨fun i hi => ?_, fun j hj => ?_⟩, ⟨A, B, hD.turned fun j hj hb => ?_, fun i hi e2 => ?_⟩, fun i h1 h2 => ?_⟩
  · by_cases e2 : i = v
    · subst e2
      exact .inr ⟨k, g.lt, by rw [upd_self], by rw [upd_self], v3⟩
    · rw [upd_ne ab _ e2]
      refine (g.up i hi).imp id fun ⟨j, j1, j2, j3, j4, j5⟩ => ⟨j, j1, j3, by rw [upd_ne be _ j2]; exact j4, j5⟩
  · by_cases e2 : j = k
    · subst e2
      exact .inr ⟨v, v1, by rw [upd_self], by rw [upd_self]⟩
    · rw [upd_ne be _ e2]
      refine (g.dn j hj e2).imp id fun ⟨i, i1, i2, i3⟩ => ⟨i, i1, i2, ?_⟩
      have : i ≠ v := fun e => by have := g.lone; rw [e] at i3; omega
      rw [upd_ne ab _ this]; exact i3
  · have : j ≠ k := fun e => g.dead.1 (e ▸ hb)
    rw [upd_ne be _ this]; exact g.dead.2 j hj hb
  · by_cases e3 : i = v
    · subst e3; rw [upd_self] at e2; omega
    · rw [upd_ne ab _ e3] at e2
      refine h3 i (by omega) (Classical.byContradiction fun n => g.keep i (by omega) e3 n e2)
  · rw [upd_ne ab _ (show i ≠ v by omega)]
    exact g.new i h2 (by omega) (h4 i (by omega) h2)
/-- One that had another one. -/
theorem Give.next {N : Nat} {E : Nat → Nat → Prop} {ab0 be0 as : Nat → Int} {low : Nat} {rk : Nat → Nat} {A B : Nat → Prop} {ab be : Nat → Int} {k v : Nat} (g : Give N E ab0 be0 as low rk A B ab be k) (p : PM N E ab0 be0) (hD : Dead N E be0 A B) (hask : ∀ h, h < N → as h ≠ -1 → h ≠ k → be0 h ≠ -1 → ∃ v : Nat, v < N ∧ as h = v ∧ E v h ∧ (v = low ∨ ∃ j : Nat, j < N ∧ be0 j = v ∧ as j ≠ -1 ∧ rk j < rk h)) (e : as k = v) (hv : v ≠ low) :
    ∃ j : Nat, j < N ∧ ab v = j ∧ rk j < rk k ∧ Give N E ab0 be0 as low rk A B (upd ab v k) (upd be k v) j := by
  obtain ⟨v', v1, v2, v3, v4⟩ := g.ask
  have : v' = v := by omega
  subst this
  obtain ⟨j, j1, j2, j3, j4⟩ := v4.resolve_left hv
  have hjk : j ≠ k := fun e => by subst e; omega
  have hbj : be j = v' := (g.old j j1 j3 j4).trans j2
  have habv : ab v' = j := by
    obtain ⟨i, i1, i2, i3⟩ := (g.dn j j1 hjk).resolve_left (by omega)
    have : i = v' := by omega
    subst this; exact i3
  have hab0 : ab0 v' = j := by
    obtain ⟨i, i1, i2, i3⟩ := (p.dn j j1).resolve_left (by omega)
    have : i = v' := by omega
    subst this; exact i3
  refine ⟨j, j1, habv, j4, j1, hask j j1 j3 hjk (by omega), ?_, fun i hi => ?_, fun l hl hne => ?_, fun l hl a r => ?_, ⟨?_, fun l hl hb => ?_⟩, fun i hi hne h0 => ?_, fun i hi hne h0 => ?_⟩
  · rw [upd_ne ab _ (fun e : low = v' => hv e.symm)]; exact g.lone
  · by_cases e2 : i = v'
    · subst e2
      exact .inr ⟨k, g.lt, fun e => hjk e.symm, by rw [upd_self], by rw [upd_self], v3⟩
    · rw [upd_ne ab _ e2]
      refine (g.up i hi).imp id fun ⟨l, l1, l2, l3, l4, l5⟩ => ⟨l, l1, fun e => e2 (by subst e; omega), l3, by rw [upd_ne be _ l2]; exact l4, l5⟩
  · by_cases e2 : l = k
    · subst e2
      exact .inr ⟨v', v1, by rw [upd_self], by rw [upd_self]⟩
    · rw [upd_ne be _ e2]
      refine (g.dn l hl e2).imp id fun ⟨i, i1, i2, i3⟩ => ⟨i, i1, i2, ?_⟩
      have : i ≠ v' := fun e => hne (by subst e; omega)
      rw [upd_ne ab _ this]; exact i3
  · have : l ≠ k := fun e => by subst e; omega
    rw [upd_ne be _ this]; exact g.old l hl a (by omega)
  · intro hb
    obtain ⟨i, i1, i2, i3⟩ := hD.md j j1 hb
    have : i = v' := by omega
    subst this
    exact g.dead.1 (hD.nb i i1 i3 k g.lt v3)
  · have : l ≠ k := fun e => g.dead.1 (e ▸ hb)
    rw [upd_ne be _ this]; exact g.dead.2 l hl hb
  · by_cases e2 : i = v'
    · subst e2; rw [upd_self]; omega
    · rw [upd_ne ab _ e2]; exact g.keep i hi hne h0
  · by_cases e2 : i = v'
    · subst e2; omega
    · rw [upd_ne ab _ e2]; exact g.new i hi hne h0
end Go.Proofs.YthcljhfankooaabGreat.C
