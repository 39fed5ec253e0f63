/- The document's pairing: what it finds, and that where it finds nothing there is nothing. -/
import Derived.Test.YtclialdbaclpoaaSearch
namespace Go.Proofs.Ytclialdbaclpoaa

/-- What is asked of the pairs when one is to be paired: nothing of those that were seen. -/
structure TPre (N : Nat) (E : Nat → Nat → Prop) (pair : Nat → Int) (seen : Nat → Bool) (i : Nat) : Prop where
  ok : ∀ k, k < N → pair k = -1 ∨ ∃ v : Nat, v < N ∧ pair k = v ∧ E v k
  inj : ∀ k j, k < N → j < N → seen k = false → seen j = false → pair k = pair j → pair k ≠ -1 → k = j
  fresh : ∀ k, k < N → seen k = false → pair k ≠ i
  lt : i < N
/-- It was paired. -/
structure TYes (N : Nat) (E : Nat → Nat → Prop) (pair : Nat → Int) (seen : Nat → Bool) (i : Nat) (pair' : Nat → Int) : Prop where
  ok : ∀ k, k < N → pair' k = -1 ∨ ∃ v : Nat, v < N ∧ pair' k = v ∧ E v k
  stay : ∀ k, k < N → seen k = true → pair' k = pair k
  inj : ∀ k j, k < N → j < N → seen k = false → seen j = false → pair' k = pair' j → pair' k ≠ -1 → k = j
  lefts : ∀ v : Nat, (∃ k, k < N ∧ seen k = false ∧ pair' k = v) ↔ v = i ∨ ∃ k, k < N ∧ seen k = false ∧ pair k = v
  dead : ∀ A B, Dead N E pair A B → ¬ A i ∧ ∀ k, k < N → B k → pair' k = pair k
/-- It was not. -/
structure TNo (N : Nat) (E : Nat → Nat → Prop) (pair : Nat → Int) (seen : Nat → Bool) (i : Nat) (seen' : Nat → Bool) : Prop where
  mono : ∀ k, k < N → seen k = true → seen' k = true
  all : ∀ h, h < N → E i h → seen' h = true
  shut : ∀ k, k < N → seen' k = true → seen k = false → pair k ≠ -1 ∧ ∀ v : Nat, pair k = v → ∀ h, h < N → E v h → seen' h = true
/-- While it is tried: behind the first k. -/
structure TTo (N : Nat) (E : Nat → Nat → Prop) (pair : Nat → Int) (seen : Nat → Bool) (i k : Nat) (cur : Nat → Bool) : Prop where
  mono : ∀ k, k < N → seen k = true → cur k = true
  all : ∀ h, h < k → h < N → E i h → cur h = true
  shut : ∀ k, k < N → cur k = true → seen k = false → pair k ≠ -1 ∧ ∀ v : Nat, pair k = v → ∀ h, h < N → E v h → cur h = true
theorem TTo.start (N : Nat) (E : Nat → Nat → Prop) (pair : Nat → Int) (seen : Nat → Bool) (i : Nat) : TTo N E pair seen i 0 seen :=
  ⟨fun _ _ h => h, fun _ h => by omega, fun _ _ h g => by rw [h] at g; cases g⟩
theorem TTo.skip {N : Nat} {E : Nat → Nat → Prop} {pair : Nat → Int} {seen : Nat → Bool} {i k : Nat} {cur : Nat → Bool} (h : TTo N E pair seen i k cur) (hk : ¬ E i k ∨ cur k = true) : TTo N E pair seen i (k + 1) cur :=
  ⟨h.mono, fun j hj hN hE => by
    by_cases e : j = k
    · subst e
      rcases hk with g | g
      · exact absurd hE g
      · exact g
    · exact h.all j (by omega) hN hE, h.shut⟩
theorem TTo.done {N : Nat} {E : Nat → Nat → Prop} {pair : Nat → Int} {seen : Nat → Bool} {i : Nat} {cur : Nat → Bool} (h : TTo N E pair seen i N cur) : TNo N E pair seen i cur :=
  ⟨h.mono, fun j hj hE => h.all j hj hj hE, h.shut⟩
def updB (f : Nat → Bool) (k : Nat) : Nat → Bool := fun j => if j = k then true else f j
theorem updB_self (f : Nat → Bool) (k : Nat) : updB f k k = true := if_pos rfl
theorem updB_ne (f : Nat → Bool) {k j : Nat} (h : j ≠ k) : updB f k j = f j := if_neg h
theorem TTo.unseen {N : Nat} {E : Nat → Nat → Prop} {pair : Nat → Int} {seen : Nat → Bool} {i k : Nat} {cur : Nat → Bool} (h : TTo N E pair seen i k cur) {j : Nat} (hj : j < N) (hc : cur j = false) : seen j = false := by
  cases hs : seen j with
  | false => rfl
  | true => rw [h.mono j hj hs] at hc; cases hc
/-- One that is free. -/
theorem TTo.free {N : Nat} {E : Nat → Nat → Prop} {pair : Nat → Int} {seen : Nat → Bool} {i k : Nat} {cur : Nat → Bool} (h : TTo N E pair seen i k cur) (p : TPre N E pair seen i) (hk : k < N) (hc : cur k = false) (hE : E i k) (h1 : pair k = -1) : TYes N E pair seen i (upd pair k i) := by
  have hs := h.unseen hk hc
  refine ⟨fun j hj => ?_, fun j hj hsj => ?_, fun a b ha hb sa sb e hne => ?_, fun v => ?_, fun A B hD => ⟨fun ha => ?_, fun j hj hB => ?_⟩⟩
  · by_cases e : j = k
    · subst e; exact .inr ⟨i, p.lt, upd_self _ _ _, hE⟩
    · rw [upd_ne _ _ e]; exact p.ok j hj
  · have : j ≠ k := fun e => by rw [e, hs] at hsj; cases hsj
    rw [upd_ne _ _ this]
  · by_cases ea : a = k
    · by_cases eb : b = k
      · rw [ea, eb]
      · rw [ea, upd_self, upd_ne _ _ eb] at e
        exact absurd e.symm (p.fresh b hb sb)
    · by_cases eb : b = k
      · rw [eb, upd_self, upd_ne _ _ ea] at e
        exact absurd e (p.fresh a ha sa)
      · rw [upd_ne _ _ ea, upd_ne _ _ eb] at e
        rw [upd_ne _ _ ea] at hne
        exact p.inj a b ha hb sa sb e hne
  · constructor
    · rintro ⟨j, hj, sj, e⟩
      by_cases ej : j = k
      · rw [ej, upd_self] at e; exact .inl (by omega)
      · rw [upd_ne _ _ ej] at e; exact .inr ⟨j, hj, sj, e⟩
    · rintro (e | ⟨j, hj, sj, e⟩)
      · exact ⟨k, hk, hs, by rw [upd_self, e]⟩
      · have : j ≠ k := fun g => by rw [g] at e; omega
        exact ⟨j, hj, sj, by rw [upd_ne _ _ this]; exact e⟩
  · obtain ⟨v, _, e, _⟩ := hD.md k hk (hD.nb i p.lt ha k hk hE)
    omega
  · have : j ≠ k := fun e => by
      obtain ⟨v, _, e2, _⟩ := hD.md j hj hB
      rw [e] at e2; omega
    rw [upd_ne _ _ this]
/-- The one that has it may be paired with another one. -/
theorem TTo.pre {N : Nat} {E : Nat → Nat → Prop} {pair : Nat → Int} {seen : Nat → Bool} {i k : Nat} {cur : Nat → Bool} (h : TTo N E pair seen i k cur) (p : TPre N E pair seen i) (hk : k < N) (hc : cur k = false) {v : Nat} (hv : pair k = v) : TPre N E pair (updB cur k) v := by
  have hs := h.unseen hk hc
  have hu : ∀ j, j < N → updB cur k j = false → seen j = false ∧ j ≠ k := fun j hj g => by
    by_cases e : j = k
    · rw [e, updB_self] at g; cases g
    · rw [updB_ne _ e] at g; exact ⟨h.unseen hj g, e⟩
  refine ⟨p.ok, fun a b ha hb sa sb e hne => p.inj a b ha hb (hu a ha sa).1 (hu b hb sb).1 e hne, fun j hj sj e => ?_, ?_⟩
  · exact (hu j hj sj).2 (p.inj j k hj hk (hu j hj sj).1 hs (by rw [e, hv]) (by omega))
  · obtain ⟨x, x1, x2, _⟩ := (p.ok k hk).resolve_left (by omega)
    have : x = v := by omega
    omega
theorem TTo.took {N : Nat} {E : Nat → Nat → Prop} {pair pair1 : Nat → Int} {seen : Nat → Bool} {i k : Nat} {cur : Nat → Bool} (h : TTo N E pair seen i k cur) (p : TPre N E pair seen i) (hk : k < N) (hc : cur k = false) (hE : E i k) {v : Nat} (hv : pair k = v) (y : TYes N E pair (updB cur k) v pair1) : TYes N E pair seen i (upd pair1 k i) := by
  have hs := h.unseen hk hc
  have hvi : (v : Int) ≠ i := fun e => p.fresh k hk hs (by rw [hv, e])
  -- what a place unseen at first has now
  have hwas : ∀ j, j < N → seen j = false → j ≠ k → (pair1 j = pair j) ∨ (updB cur k j = false) := fun j hj sj ej => by
    cases g : updB cur k j with
    | false => exact .inr rfl
    | true => exact .inl (y.stay j hj g)
  have hun : ∀ j, j < N → updB cur k j = false → seen j = false ∧ j ≠ k := fun j hj g => by
    by_cases e : j = k
    · rw [e, updB_self] at g; cases g
    · rw [updB_ne _ e] at g; exact ⟨h.unseen hj g, e⟩
  have hfrom : ∀ j, j < N → updB cur k j = false → ∀ x : Nat, pair1 j = x → x = v ∨ ∃ q, q < N ∧ updB cur k q = false ∧ pair q = x := fun j hj g x e => (y.lefts x).1 ⟨j, hj, g, e⟩
  -- two unlike ones, one of them as it was
  have hmix : ∀ a b, a < N → b < N → a ≠ k → b ≠ k → seen a = false → seen b = false → updB cur k a = false → updB cur k b = true → pair1 a = pair1 b → pair1 a ≠ -1 → False := fun a b ha hb ea eb sa sb ga gb e hne => by
    have e1 := y.stay b hb gb
    obtain ⟨x, _, ex, _⟩ := (y.ok a ha).resolve_left hne
    rcases hfrom a ha ga x ex with g | ⟨q, hq, gq, eq⟩
    · exact eb (p.inj b k hb hk sb hs (by omega) (by omega))
    · have := p.inj q b hq hb (hun q hq gq).1 sb (by omega) (by omega)
      rw [this, gb] at gq; cases gq
  refine ⟨fun j hj => ?_, fun j hj sj => ?_, fun a b ha hb sa sb e hne => ?_, fun x => ?_, fun A B hD => ?_⟩
  · by_cases e : j = k
    · subst e; exact .inr ⟨i, p.lt, upd_self _ _ _, hE⟩
    · rw [upd_ne _ _ e]; exact y.ok j hj
  · have ej : j ≠ k := fun e => by rw [e, hs] at sj; cases sj
    rw [upd_ne _ _ ej]
    exact y.stay j hj (by rw [updB_ne _ ej]; exact h.mono j hj sj)
  · -- no other one has i
    have hno : ∀ j, j < N → seen j = false → j ≠ k → pair1 j ≠ i := fun j hj sj ej g => by
      rcases hwas j hj sj ej with g1 | g1
      · exact p.fresh j hj sj (by rw [← g1]; exact g)
      · rcases hfrom j hj g1 i g with g2 | ⟨q, hq, gq, eq⟩
        · exact hvi (by rw [g2])
        · exact p.fresh q hq (hun q hq gq).1 eq
    by_cases ea : a = k
    · by_cases eb : b = k
      · rw [ea, eb]
      · rw [ea, upd_self, upd_ne _ _ eb] at e
        exact absurd e.symm (hno b hb sb eb)
    · by_cases eb : b = k
      · rw [eb, upd_self, upd_ne _ _ ea] at e
        exact absurd e (hno a ha sa ea)
      · rw [upd_ne _ _ ea, upd_ne _ _ eb] at e
        rw [upd_ne _ _ ea] at hne
        cases ga : updB cur k a with
        | false =>
          cases gb : updB cur k b with
          | false => exact y.inj a b ha hb ga gb e hne
          | true => exact (hmix a b ha hb ea eb sa sb ga gb e hne).elim
        | true =>
          cases gb : updB cur k b with
          | false => exact (hmix b a hb ha eb ea sb sa gb ga e.symm (e ▸ hne)).elim
          | true =>
            rw [y.stay a ha ga, y.stay b hb gb] at e
            rw [y.stay a ha ga] at hne
            exact p.inj a b ha hb sa sb e hne
  · constructor
    · rintro ⟨j, hj, sj, e⟩
      by_cases ej : j = k
      · rw [ej, upd_self] at e; exact .inl (by omega)
      · rw [upd_ne _ _ ej] at e
        rcases hwas j hj sj ej with g1 | g1
        · exact .inr ⟨j, hj, sj, by rw [← g1]; exact e⟩
        · rcases hfrom j hj g1 x e with g2 | ⟨q, hq, gq, eq⟩
          · exact .inr ⟨k, hk, hs, by rw [hv, g2]⟩
          · exact .inr ⟨q, hq, (hun q hq gq).1, eq⟩
    · rintro (e | ⟨j, hj, sj, e⟩)
      · exact ⟨k, hk, hs, by rw [upd_self, e]⟩
      · have hback : ∀ z : Nat, (z = v ∨ ∃ q, q < N ∧ updB cur k q = false ∧ pair q = z) → ∃ q, q < N ∧ seen q = false ∧ upd pair1 k i q = z := fun z hz => by
          obtain ⟨q, hq, gq, eq⟩ := (y.lefts z).2 hz
          exact ⟨q, hq, (hun q hq gq).1, by rw [upd_ne _ _ (hun q hq gq).2]; exact eq⟩
        by_cases ej : j = k
        · exact hback x (.inl (by rw [ej, hv] at e; omega))
        · cases gj : updB cur k j with
          | false => exact hback x (.inr ⟨j, hj, gj, e⟩)
          | true => exact ⟨j, hj, sj, by rw [upd_ne _ _ ej, y.stay j hj gj]; exact e⟩
  · obtain ⟨d1, d2⟩ := y.dead A B hD
    have hB : ¬ B k := fun g => by
      obtain ⟨x, _, e, hA⟩ := hD.md k hk g
      have : x = v := by omega
      exact d1 (this ▸ hA)
    refine ⟨fun ha => hB (hD.nb i p.lt ha k hk hE), fun j hj g => ?_⟩
    have : j ≠ k := fun e => hB (e ▸ g)
    rw [upd_ne _ _ this]
    exact d2 j hj g
/-- It stays with it. -/
theorem TTo.kept {N : Nat} {E : Nat → Nat → Prop} {pair : Nat → Int} {seen cur' : Nat → Bool} {i k : Nat} {cur : Nat → Bool} (h : TTo N E pair seen i k cur) (hk : k < N) {v : Nat} (hv : pair k = v) (n : TNo N E pair (updB cur k) v cur') : TTo N E pair seen i (k + 1) cur' := by
  have hm : ∀ j, j < N → cur j = true → cur' j = true := fun j hj g => n.mono j hj (by
    by_cases e : j = k
    · rw [e, updB_self]
    · rw [updB_ne _ e]; exact g)
  have hkk : cur' k = true := n.mono k hk (updB_self _ _)
  refine ⟨fun j hj g => hm j hj (h.mono j hj g), fun j hj hN hE => ?_, fun j hj g sj => ?_⟩
  · by_cases e : j = k
    · rw [e]; exact hkk
    · exact hm j hN (h.all j (by omega) hN hE)
  · by_cases e : j = k
    · rw [e]
      refine ⟨by omega, fun x ex q hq hE => ?_⟩
      have : x = v := by omega
      exact n.all q hq (this ▸ hE)
    · cases gc : cur j with
      | true =>
        obtain ⟨s1, s2⟩ := h.shut j hj gc sj
        exact ⟨s1, fun x ex q hq hE => hm q hq (s2 x ex q hq hE)⟩
      | false => exact n.shut j hj g (by rw [updB_ne _ e]; exact gc)

/-- Behind the first of them. -/
def RDone (N : Nat) (E : Nat → Nat → Prop) (pair : Nat → Int) (i n : Nat) : Prop :=
  PB N E pair ∧ (∃ A B, Dead N E pair A B ∧ ∀ v, v < i → v < N → A v ∨ ∃ k, k < N ∧ pair k = v) ∧ (∀ k, k < N → pair k = -1 ∨ pair k < i) ∧ n + (hads N pair).length = N
theorem RDone.start (N : Nat) (E : Nat → Nat → Prop) : RDone N E (fun _ => -1) 0 N :=
  ⟨⟨fun _ _ => .inl rfl, fun _ _ _ _ _ h => absurd rfl h⟩, ⟨fun _ => False, fun _ => False, ⟨fun _ _ h => h.elim, fun _ _ h => h.elim⟩, fun v h => by omega⟩, fun _ _ => .inl rfl, by
    have : hads N (fun _ => -1) = [] := by
      rw [hads, List.filter_eq_nil_iff]
      intro k _
      simp
    rw [this]; rfl⟩
theorem RDone.pre {N : Nat} {E : Nat → Nat → Prop} {pair : Nat → Int} {i n : Nat} (h : RDone N E pair i n) (hi : i < N) : TPre N E pair (fun _ => false) i :=
  ⟨h.1.ok, fun k j hk hj _ _ e hne => h.1.inj k j hk hj e hne, fun k hk _ e => by
    rcases h.2.2.1 k hk with g | g
    · omega
    · omega, hi⟩
theorem RDone.yes {N : Nat} {E : Nat → Nat → Prop} {pair pair' : Nat → Int} {i n : Nat} (h : RDone N E pair i n) (y : TYes N E pair (fun _ => false) i pair') : 1 ≤ n ∧ RDone N E pair' (i + 1) (n - 1) := by
  obtain ⟨hp, ⟨A, B, hD, hA⟩, hlt, hn⟩ := h
  have hp' : PB N E pair' := ⟨y.ok, fun k j hk hj e hne => y.inj k j hk hj rfl rfl e hne⟩
  have hl : (hads N pair').length = (hads N pair).length + 1 := by
    rw [← lows_length, ← lows_length]
    have hni : i ∉ lows N pair := fun g => by
      obtain ⟨k, hk, e⟩ := hp.mem_lows.1 g
      rcases hlt k hk with g | g
      · omega
      · omega
    have := same_len hp'.lows_nodup (List.nodup_cons.2 ⟨hni, hp.lows_nodup⟩) (fun x => by
      rw [hp'.mem_lows, List.mem_cons, hp.mem_lows]
      constructor
      · rintro ⟨k, hk, e⟩
        rcases (y.lefts x).1 ⟨k, hk, rfl, e⟩ with g | ⟨q, hq, _, eq⟩
        · exact .inl g
        · exact .inr ⟨q, hq, eq⟩
      · intro g
        obtain ⟨q, hq, _, eq⟩ := (y.lefts x).2 (g.imp id fun ⟨q, hq, eq⟩ => ⟨q, hq, rfl, eq⟩)
        exact ⟨q, hq, eq⟩)
    simpa using this
  have hle : (hads N pair').length ≤ N := by
    have := nodup_le (hads N pair') (List.range N) (hads_nodup N pair') (fun x hx => List.mem_range.2 (mem_hads.1 hx).1)
    simpa using this
  refine ⟨by omega, hp', ⟨A, B, hD.turned (y.dead A B hD).2, fun v hv hvN => ?_⟩, fun k hk => ?_, by omega⟩
  · by_cases e : v = i
    · obtain ⟨k, hk, _, ek⟩ := (y.lefts v).2 (.inl e)
      exact .inr ⟨k, hk, ek⟩
    · rcases hA v (by omega) hvN with g | ⟨k, hk, ek⟩
      · exact .inl g
      · obtain ⟨q, hq, _, eq⟩ := (y.lefts v).2 (.inr ⟨k, hk, rfl, ek⟩)
        exact .inr ⟨q, hq, eq⟩
  · rcases y.ok k hk with g | ⟨v, hv, e, _⟩
    · exact .inl g
    · rcases (y.lefts v).1 ⟨k, hk, rfl, e⟩ with g | ⟨q, hq, _, eq⟩
      · exact .inr (by omega)
      · rcases hlt q hq with g | g
        · omega
        · exact .inr (by omega)
theorem RDone.no {N : Nat} {E : Nat → Nat → Prop} {pair : Nat → Int} {i n : Nat} {seen' : Nat → Bool} (h : RDone N E pair i n) (x : TNo N E pair (fun _ => false) i seen') : RDone N E pair (i + 1) n := by
  obtain ⟨hp, ⟨A, B, hD, hA⟩, hlt, hn⟩ := h
  have hd : Dead N E pair (fun v => v = i ∨ ∃ k, k < N ∧ seen' k = true ∧ pair k = v) (fun k => seen' k = true) := by
    refine ⟨fun v hv hm k hk hE => ?_, fun k hk hb => ?_⟩
    · rcases hm with e | ⟨q, hq, gq, eq⟩
      · exact x.all k hk (e ▸ hE)
      · exact (x.shut q hq gq rfl).2 v eq k hk hE
    · obtain ⟨s1, _⟩ := x.shut k hk hb rfl
      obtain ⟨v, v1, v2, _⟩ := (hp.ok k hk).resolve_left s1
      exact ⟨v, v1, v2, .inr ⟨k, hk, hb, v2⟩⟩
  refine ⟨hp, ⟨_, _, hD.join hd, fun v hv hvN => ?_⟩, fun k hk => ?_, hn⟩
  · by_cases e : v = i
    · exact .inl (.inr (.inl e))
    · exact (hA v (by omega) hvN).imp .inl id
  · rcases hlt k hk with g | g
    · exact .inl g
    · exact .inr (by omega)
end Go.Proofs.Ytclialdbaclpoaa
