/- The document's pairing: what it finds, and that where it finds nothing there is nothing. The walk of the document's try. The walk of ChainMore. -/
import Derived.Test.YthcljhfankooaabGreatMCs
import Derived.Test.YthcljhfankooaabGreatMCb
import Derived.Test.YthcljhfankooaabGreatMCe
namespace Go.Proofs.YthcljhfankooaabGreat.C

/-- What is asked of the pairs when one is to be paired: nothing of those that were seen. -/
structure TPre (N : Nat) (E : Nat → Nat → Prop) (pair : Nat → Int) (seen : Nat → Bool) (i : Nat) : Prop where
  ok : ∀ k, k < N → pair k = -1 ∨ ∃ v : Nat, v < N ∧ pair k = v ∧ E v k
  inj : ∀ k j, k < N → j < N → seen k = false → seen j = false → pair k = pair j → pair k ≠ -1 → k = j
  fresh : ∀ k, k < N → seen k = false → pair k ≠ i
  lt : i < N
/-- It was paired. -/
structure TYes (N : Nat) (E : Nat → Nat → Prop) (pair : Nat → Int) (seen : Nat → Bool) (i : Nat) (pair' : Nat → Int) : Prop where
  ok : ∀ k, k < N → pair' k = -1 ∨ ∃ v : Nat, v < N ∧ pair' k = v ∧ E v k
  stay : ∀ k, k < N → seen k = true → pair' k = pair k
  inj : ∀ k j, k < N → j < N → seen k = false → seen j = false → pair' k = pair' j → pair' k ≠ -1 → k = j
  lefts : ∀ v : Nat, (∃ k, k < N ∧ seen k = false ∧ pair' k = v) ↔ v = i ∨ ∃ k, k < N ∧ seen k = false ∧ pair k = v
  dead : ∀ A B, Dead N E pair A B → ¬ A i ∧ ∀ k, k < N → B k → pair' k = pair k
/-- It was not. -/
structure TNo (N : Nat) (E : Nat → Nat → Prop) (pair : Nat → Int) (seen : Nat → Bool) (i : Nat) (seen' : Nat → Bool) : Prop where
  mono : ∀ k, k < N → seen k = true → seen' k = true
  all : ∀ h, h < N → E i h → seen' h = true
  shut : ∀ k, k < N → seen' k = true → seen k = false → pair k ≠ -1 ∧ ∀ v : Nat, pair k = v → ∀ h, h < N → E v h → seen' h = true
/-- While it is tried: behind the first k. -/
structure TTo (N : Nat) (E : Nat → Nat → Prop) (pair : Nat → Int) (seen : Nat → Bool) (i k : Nat) (cur : Nat → Bool) : Prop where
  mono : ∀ k, k < N → seen k = true → cur k = true
  all : ∀ h, h < k → h < N → E i h → cur h = true
  shut : ∀ k, k < N → cur k = true → seen k = false → pair k ≠ -1 ∧ ∀ v : Nat, pair k = v → ∀ h, h < N → E v h → cur h = true
theorem TTo.start (N : Nat) (E : Nat → Nat → Prop) (pair : Nat → Int) (seen : Nat → Bool) (i : Nat) : TTo N E pair seen i 0 seen :=
  ⟨fun _ _ h => h, fun _ h => by omega, fun _ _ h g => by rw [h] at g; cases g⟩
theorem TTo.skip {N : Nat} {E : Nat → Nat → Prop} {pair : Nat → Int} {seen : Nat → Bool} {i k : Nat} {cur : Nat → Bool} (h : TTo N E pair seen i k cur) (hk : ¬ E i k ∨ cur k = true) : TTo N E pair seen i (k + 1) cur :=
  ⟨h.mono, fun j hj hN hE => by
    by_cases e : j = k
    · subst e
      rcases hk with g | g
      · exact absurd hE g
      · exact g
    · exact h.all j (by omega) hN hE, h.shut⟩
theorem TTo.done {N : Nat} {E : Nat → Nat → Prop} {pair : Nat → Int} {seen : Nat → Bool} {i : Nat} {cur : Nat → Bool} (h : TTo N E pair seen i N cur) : TNo N E pair seen i cur :=
  ⟨h.mono, fun j hj hE => h.all j hj hj hE, h.shut⟩
def updB (f : Nat → Bool) (k : Nat) : Nat → Bool := fun j => if j = k then true else f j
theorem updB_self (f : Nat → Bool) (k : Nat) : updB f k k = true := if_pos rfl
theorem updB_ne (f : Nat → Bool) {k j : Nat} (h : j ≠ k) : updB f k j = f j := if_neg h
theorem TTo.unseen {N : Nat} {E : Nat → Nat → Prop} {pair : Nat → Int} {seen : Nat → Bool} {i k : Nat} {cur : Nat → Bool} (h : TTo N E pair seen i k cur) {j : Nat} (hj : j < N) (hc : cur j = false) : seen j = false := by
  cases hs : seen j with
  | false => rfl
  | true => rw [h.mono j hj hs] at hc; cases hc
/-- One that is free. -/
theorem TTo.free {N : Nat} {E : Nat → Nat → Prop} {pair : Nat → Int} {seen : Nat → Bool} {i k : Nat} {cur : Nat → Bool} (h : TTo N E pair seen i k cur) (p : TPre N E pair seen i) (hk : k < N) (hc : cur k = false) (hE : E i k) (h1 : pair k = -1) : TYes N E pair seen i (upd pair k i) := by
  have hs := h.unseen hk hc
  refine ⟨fun j hj => ?_, fun j hj hsj => ?_, fun a b ha hb sa sb e hne => ?_, fun v => ?_, fun A B hD => ⟨fun ha => ?_, fun j hj hB => ?_⟩⟩
  · by_cases e : j = k
    · subst e; exact .inr ⟨i, p.lt, upd_self _ _ _, hE⟩
    · rw [upd_ne _ _ e]; exact p.ok j hj
  · have : j ≠ k := fun e => by rw [e, hs] at hsj; cases hsj
    rw [upd_ne _ _ this]
  · by_cases ea : a = k
    · by_cases eb : b = k
      · rw [ea, eb]
      · rw [ea, upd_self, upd_ne _ _ eb] at e
        exact absurd e.symm (p.fresh b hb sb)
    · by_cases eb : b = k
      · rw [eb, upd_self, upd_ne _ _ ea] at e
        exact absurd e (p.fresh a ha sa)
      · rw [upd_ne _ _ ea, upd_ne _ _ eb] at e
        rw [upd_ne _ _ ea] at hne
        exact p.inj a b ha hb sa sb e hne
  · constructor
    · rintro ⟨j, hj, sj, e⟩
      by_cases ej : j = k
      · rw [ej, upd_self] at e; exact .inl (by omega)
      · rw [upd_ne _ _ ej] at e; exact .inr ⟨j, hj, sj, e⟩
    · rintro (e | ⟨j, hj, sj, e⟩)
      · exact ⟨k, hk, hs, by rw [upd_self, e]⟩
      · have : j ≠ k := fun g => by rw [g] at e; omega
        exact ⟨j, hj, sj, by rw [upd_ne _ _ this]; exact e⟩
  · obtain ⟨v, _, e, _⟩ := hD.md k hk (hD.nb i p.lt ha k hk hE)
    omega
  · have : j ≠ k := fun e => by
      obtain ⟨v, _, e2, _⟩ := hD.md j hj hB
      rw [e] at e2; omega
    rw [upd_ne _ _ this]
/-- The one that has it may be paired with another one. -/
theorem TTo.pre {N : Nat} {E : Nat → Nat → Prop} {pair : Nat → Int} {seen : Nat → Bool} {i k : Nat} {cur : Nat → Bool} (h : TTo N E pair seen i k cur) (p : TPre N E pair seen i) (hk : k < N) (hc : cur k = false) {v : Nat} (hv : pair k = v) : TPre N E pair (updB cur k) v := by
  have hs := h.unseen hk hc
  have hu : ∀ j, j < N → updB cur k j = false → seen j = false ∧ j ≠ k := fun j hj g => by
    by_cases e : j = k
    · rw [e, updB_self] at g; cases g
    · rw [updB_ne _ e] at g; exact ⟨h.unseen hj g, e⟩
  refine ⟨p.ok, fun a b ha hb sa sb e hne => p.inj a b ha hb (hu a ha sa).1 (hu b hb sb).1 e hne, fun j hj sj e => ?_, ?_⟩
  · exact (hu j hj sj).2 (p.inj j k hj hk (hu j hj sj).1 hs (by rw [e, hv]) (by omega))
  · obtain ⟨x, x1, x2, _⟩ := (p.ok k hk).resolve_left (by omega)
    have : x = v := by omega
    omega
theorem TTo.took {N : Nat} {E : Nat → Nat → Prop} {pair pair1 : Nat → Int} {seen : Nat → Bool} {i k : Nat} {cur : Nat → Bool} (h : TTo N E pair seen i k cur) (p : TPre N E pair seen i) (hk : k < N) (hc : cur k = false) (hE : E i k) {v : Nat} (hv : pair k = v) (y : TYes N E pair (updB cur k) v pair1) : TYes N E pair seen i (upd pair1 k i) := by
  have hs := h.unseen hk hc
  have hvi : (v : Int) ≠ i := fun e => p.fresh k hk hs (by rw [hv, e])
  -- what a place unseen at first has now
  have hwas : ∀ j, j < N → seen j = false → j ≠ k → (pair1 j = pair j) ∨ (updB cur k j = false) := fun j hj sj ej => by
    cases g : updB cur k j with
    | false => exact .inr rfl
    | true => exact .inl (y.stay j hj g)
  have hun : ∀ j, j < N → updB cur k j = false → seen j = false ∧ j ≠ k := fun j hj g => by
    by_cases e : j = k
    · rw [e, updB_self] at g; cases g
    · rw [updB_ne _ e] at g; exact ⟨h.unseen hj g, e⟩
  have hfrom : ∀ j, j < N → updB cur k j = false → ∀ x : Nat, pair1 j = x → x = v ∨ ∃ q, q < N ∧ updB cur k q = false ∧ pair q = x := fun j hj g x e => (y.lefts x).1 ⟨j, hj, g, e⟩
  -- two unlike ones, one of them as it was
  have hmix : ∀ a b, a < N → b < N → a ≠ k → b ≠ k → seen a = false → seen b = false → updB cur k a = false → updB cur k b = true → pair1 a = pair1 b → pair1 a ≠ -1 → False := fun a b ha hb ea eb sa sb ga gb e hne => by
    have e1 := y.stay b hb gb
    obtain ⟨x, _, ex, _⟩ := (y.ok a ha).resolve_left hne
    rcases hfrom a ha ga x ex with g | ⟨q, hq, gq, eq⟩
    · exact eb (p.inj b k hb hk sb hs (by omega) (by omega))
    · have := p.inj q b hq hb (hun q hq gq).1 sb (by omega) (by omega)
      rw [this, gb] at gq; cases gq
  refine ⟨fun j hj => ?_, fun j hj sj => ?_, fun a b ha hb sa sb e hne => ?_, fun x => ?_, fun A B hD => ?_⟩
  · by_cases e : j = k
    · subst e; exact .inr ⟨i, p.lt, upd_self _ _ _, hE⟩
    · rw [upd_ne _ _ e]; exact y.ok j hj
  · have ej : j ≠ k := fun e => by rw [e, hs] at sj; cases sj
    rw [upd_ne _ _ ej]
    exact y.stay j hj (by rw [updB_ne _ ej]; exact h.mono j hj sj)
  · -- no other one has i
    have hno : ∀ j, j < N → seen j = false → j ≠ k → pair1 j ≠ i := fun j hj sj ej g => by
      rcases hwas j hj sj ej with g1 | g1
      · exact p.fresh j hj sj (by rw [← g1]; exact g)
      · rcases hfrom j hj g1 i g with g2 | ⟨q, hq, gq, eq⟩
        · exact hvi (by rw [g2])
        · exact p.fresh q hq (hun q hq gq).1 eq
    by_cases ea : a = k
    · by_cases eb : b = k
      · rw [ea, eb]
      · rw [ea, upd_self, upd_ne _ _ eb] at e
        exact absurd e.symm (hno b hb sb eb)
    · by_cases eb : b = k
      · rw [eb, upd_self, upd_ne _ _ ea] at e
        exact absurd e (hno a ha sa ea)
      · rw [upd_ne _ _ ea, upd_ne _ _ eb] at e
        rw [upd_ne _ _ ea] at hne
        cases ga : updB cur k a with
        | false =>
          cases gb : updB cur k b with
          | false => exact y.inj a b ha hb ga gb e hne
          | true => exact (hmix a b ha hb ea eb sa sb ga gb e hne).elim
        | true =>
          cases gb : updB cur k b with
          | false => exact (hmix b a hb ha eb ea sb sa gb ga e.symm (e ▸ hne)).elim
          | true =>
            rw [y.stay a ha ga, y.stay b hb gb] at e
            rw [y.stay a ha ga] at hne
            exact p.inj a b ha hb sa sb e hne
  · constructor
    · rintro ⟨j, hj, sj, e⟩
      by_cases ej : j = k
      · rw [ej, upd_self] at e; exact .inl (by omega)
      · rw [upd_ne _ _ ej] at e
        rcases hwas j hj sj ej with g1 | g1
        · exact .inr ⟨j, hj, sj, by rw [← g1]; exact e⟩
        · rcases hfrom j hj g1 x e with g2 | ⟨q, hq, gq, eq⟩
          · exact .inr ⟨k, hk, hs, by rw [hv, g2]⟩
          · exact .inr ⟨q, hq, (hun q hq gq).1, eq⟩
    · rintro (e | ⟨j, hj, sj, e⟩)
      · exact ⟨k, hk, hs, by rw [upd_self, e]⟩
      · have hback : ∀ z : Nat, (z = v ∨ ∃ q, q < N ∧ updB cur k q = false ∧ pair q = z) → ∃ q, q < N ∧ seen q = false ∧ upd pair1 k i q = z := fun z hz => by
          obtain ⟨q, hq, gq, eq⟩ := (y.lefts z).2 hz
          exact ⟨q, hq, (hun q hq gq).1, by rw [upd_ne _ _ (hun q hq gq).2]; exact eq⟩
        by_cases ej : j = k
        · exact hback x (.inl (by rw [ej, hv] at e; omega))
        · cases gj : updB cur k j with
          | false => exact hback x (.inr ⟨j, hj, gj, e⟩)
          | true => exact ⟨j, hj, sj, by rw [upd_ne _ _ ej, y.stay j hj gj]; exact e⟩
  · obtain ⟨d1, d2⟩ := y.dead A B hD
    have hB : ¬ B k := fun g => by
      obtain ⟨x, _, e, hA⟩ := hD.md k hk g
      have : x = v := by omega
      exact d1 (this ▸ hA)
    refine ⟨fun ha => hB (hD.nb i p.lt ha k hk hE), fun j hj g => ?_⟩
    have : j ≠ k := fun e => hB (e ▸ g)
    rw [upd_ne _ _ this]
    exact d2 j hj g
/-- It stays with it. -/
theorem TTo.kept {N : Nat} {E : Nat → Nat → Prop} {pair : Nat → Int} {seen cur' : Nat → Bool} {i k : Nat} {cur : Nat → Bool} (h : TTo N E pair seen i k cur) (hk : k < N) {v : Nat} (hv : pair k = v) (n : TNo N E pair (updB cur k) v cur') : TTo N E pair seen i (k + 1) cur' := by
  have hm : ∀ j, j < N → cur j = true → cur' j = true := fun j hj g => n.mono j hj (by
    by_cases e : j = k
    · rw [e, updB_self]
    · rw [updB_ne _ e]; exact g)
  have hkk : cur' k = true := n.mono k hk (updB_self _ _)
  refine ⟨fun j hj g => hm j hj (h.mono j hj g), fun j hj hN hE => ?_, fun j hj g sj => ?_⟩
  · by_cases e : j = k
    · rw [e]; exact hkk
    · exact hm j hN (h.all j (by omega) hN hE)
  · by_cases e : j = k
    · rw [e]
      refine ⟨by omega, fun x ex q hq hE => ?_⟩
      have : x = v := by omega
      exact n.all q hq (this ▸ hE)
    · cases gc : cur j with
      | true =>
        obtain ⟨s1, s2⟩ := h.shut j hj gc sj
        exact ⟨s1, fun x ex q hq hE => hm q hq (s2 x ex q hq hE)⟩
      | false => exact n.shut j hj g (by rw [updB_ne _ e]; exact gc)

/-- Behind the first of them. -/
def RDone (N : Nat) (E : Nat → Nat → Prop) (pair : Nat → Int) (i n : Nat) : Prop :=
  PB N E pair ∧ (∃ A B, Dead N E pair A B ∧ ∀ v, v < i → v < N → A v ∨ ∃ k, k < N ∧ pair k = v) ∧ (∀ k, k < N → pair k = -1 ∨ pair k < i) ∧ n + (hads N pair).length = N
theorem RDone.start (N : Nat) (E : Nat → Nat → Prop) : RDone N E (fun _ => -1) 0 N :=
  ⟨⟨fun _ _ => .inl rfl, fun _ _ _ _ _ h => absurd rfl h⟩, ⟨fun _ => False, fun _ => False, ⟨fun _ _ h => h.elim, fun _ _ h => h.elim⟩, fun v h => by omega⟩, fun _ _ => .inl rfl, by
    have : hads N (fun _ => -1) = [] := by
      rw [hads, List.filter_eq_nil_iff]
      intro k _
      simp
    rw [this]; rfl⟩
theorem RDone.pre {N : Nat} {E : Nat → Nat → Prop} {pair : Nat → Int} {i n : Nat} (h : RDone N E pair i n) (hi : i < N) : TPre N E pair (fun _ => false) i :=
  ⟨h.1.ok, fun k j hk hj _ _ e hne => h.1.inj k j hk hj e hne, fun k hk _ e => by
    rcases h.2.2.1 k hk with g | g
    · omega
    · omega, hi⟩
theorem RDone.yes {N : Nat} {E : Nat → Nat → Prop} {pair pair' : Nat → Int} {i n : Nat} (h : RDone N E pair i n) (y : TYes N E pair (fun _ => false) i pair') : 1 ≤ n ∧ RDone N E pair' (i + 1) (n - 1) := by
  obtain ⟨hp, ⟨A, B, hD, hA⟩, hlt, hn⟩ := h
  have hp' : PB N E pair' := ⟨y.ok, fun k j hk hj e hne => y.inj k j hk hj rfl rfl e hne⟩
  have hl : (hads N pair').length = (hads N pair).length + 1 := by
    rw [← lows_length, ← lows_length]
    have hni : i ∉ lows N pair := fun g => by
      obtain ⟨k, hk, e⟩ := hp.mem_lows.1 g
      rcases hlt k hk with g | g
      · omega
      · omega
    have := same_len hp'.lows_nodup (List.nodup_cons.2 ⟨hni, hp.lows_nodup⟩) (fun x => by
      rw [hp'.mem_lows, List.mem_cons, hp.mem_lows]
      constructor
      · rintro ⟨k, hk, e⟩
        rcases (y.lefts x).1 ⟨k, hk, rfl, e⟩ with g | ⟨q, hq, _, eq⟩
        · exact .inl g
        · exact .inr ⟨q, hq, eq⟩
      · intro g
        obtain ⟨q, hq, _, eq⟩ := (y.lefts x).2 (g.imp id fun ⟨q, hq, eq⟩ => ⟨q, hq, rfl, eq⟩)
        exact ⟨q, hq, eq⟩)
    simpa using this
  have hle : (hads N pair').length ≤ N := by
    have := nodup_le (hads N pair') (List.range N) (hads_nodup N pair') (fun x hx => List.mem_range.2 (mem_hads.1 hx).1)
    simpa using this
  refine ⟨by omega, hp', ⟨A, B, hD.turned (y.dead A B hD).2, fun v hv hvN => ?_⟩, fun k hk => ?_, by omega⟩
  · by_cases e : v = i
    · obtain ⟨k, hk, _, ek⟩ := (y.lefts v).2 (.inl e)
      exact .inr ⟨k, hk, ek⟩
    · rcases hA v (by omega) hvN with g | ⟨k, hk, ek⟩
      · exact .inl g
      · obtain ⟨q, hq, _, eq⟩ := (y.lefts v).2 (.inr ⟨k, hk, rfl, ek⟩)
        exact .inr ⟨q, hq, eq⟩
  · rcases y.ok k hk with g | ⟨v, hv, e, _⟩
    · exact .inl g
    · rcases (y.lefts v).1 ⟨k, hk, rfl, e⟩ with g | ⟨q, hq, _, eq⟩
      · exact .inr (by omega)
      · rcases hlt q hq with g | g
        · omega
        · exact .inr (by omega)
theorem RDone.no {N : Nat} {E : Nat → Nat → Prop} {pair : Nat → Int} {i n : Nat} {seen' : Nat → Bool} (h : RDone N E pair i n) (x : TNo N E pair (fun _ => false) i seen') : RDone N E pair (i + 1) n := by
  obtain ⟨hp, ⟨A, B, hD, hA⟩, hlt, hn⟩ := h
  have hd : Dead N E pair (fun v => v = i ∨ ∃ k, k < N ∧ seen' k = true ∧ pair k = v) (fun k => seen' k = true) := by
    refine ⟨fun v hv hm k hk hE => ?_, fun k hk hb => ?_⟩
    · rcases hm with e | ⟨q, hq, gq, eq⟩
      · exact x.all k hk (e ▸ hE)
      · exact (x.shut q hq gq rfl).2 v eq k hk hE
    · obtain ⟨s1, _⟩ := x.shut k hk hb rfl
      obtain ⟨v, v1, v2, _⟩ := (hp.ok k hk).resolve_left s1
      exact ⟨v, v1, v2, .inr ⟨k, hk, hb, v2⟩⟩
  refine ⟨hp, ⟨_, _, hD.join hd, fun v hv hvN => ?_⟩, fun k hk => ?_, hn⟩
  · by_cases e : v = i
    · exact .inl (.inr (.inl e))
    · exact (hA v (by omega) hvN).imp .inl id
  · rcases hlt k hk with g | g
    · exact .inl g
    · exact .inr (by omega)
end Go.Proofs.YthcljhfankooaabGreat.C

namespace Go.Proofs.YthcljhfankooaabGreat.C
open Go.RowKit Go.Shelf Go.Maps

theorem and_nat (a b : Nat) (ha : a < 4611686018427387904) (hb : b < 4611686018427387904) : bits .and .i64 (a : Int) (b : Int) = ((a &&& b : Nat) : Int) := by
  have hx : a &&& b ≤ a := Nat.and_le_left
  show IntKind.i64.wrap ((BitVec.ofInt 64 (a : Int) &&& BitVec.ofInt 64 (b : Int)).toNat : Int) = _
  rw [BitVec.toNat_and, ofInt_u64 a (by omega), ofInt_u64 b (by omega), IntKind.wrap_i64]
  omega
theorem and_sub (a b : Int) (h0 : 0 ≤ a) (h1 : a < 256) (h2 : 0 ≤ b) (h3 : b < 256) : (bits .and .i64 a b != a) = !sub a b := by
  obtain ⟨A, rfl⟩ := Int.eq_ofNat_of_zero_le h0
  obtain ⟨B, rfl⟩ := Int.eq_ofNat_of_zero_le h2
  rw [and_nat A B (by omega) (by omega)]
  unfold sub
  simp only [Int.toNat_natCast]
  rw [bne, Bool.not_eq_eq_eq_not, Bool.not_not, Bool.eq_iff_iff, beq_iff_eq, beq_iff_eq]
  omega
/-- A place of truths that may be written. -/
def ArrB (w : World) (b n : Nat) (f : Nat → Bool) : Prop := ∃ cur, w.heap[b]? = some (.cells cur 4 (0, 0)) ∧ ∀ j, j < n → cur[j]? = some (.bool (f j))
theorem ArrB.lt {w : World} {b n : Nat} {f : Nat → Bool} (h : ArrB w b n f) : b < w.heap.size := by
  obtain ⟨cur, h, _⟩ := h
  exact lt_heap h
theorem ArrB.cell {w : World} {b n : Nat} {f : Nat → Bool} (h : ArrB w b n f) {j : Nat} (hj : j < n) : w.cell? ⟨b, j, none⟩ = some (.bool (f j)) ∧ w.frozen? ⟨b, j, none⟩ = false := by
  obtain ⟨cur, h1, h2⟩ := h
  exact ⟨(cell_at h1 j).trans (h2 j hj), by simp [World.frozen?, h1]⟩
theorem ArrB.keeps {O : Nat → Prop} {w w' : World} {b n : Nat} {f : Nat → Bool} (h : ArrB w b n f) (hk : Keeps O w w') (hO : ¬ O b) : ArrB w' b n f := by
  obtain ⟨cur, h1, h2⟩ := h
  exact ⟨cur, hk.same _ _ h1 hO, h2⟩
theorem ArrB.set {w : World} {b n : Nat} {f : Nat → Bool} (h : ArrB w b n f) {k : Nat} (hk : k < n) : ArrB (w.setCell ⟨b, k, none⟩ (.bool true)) b n (updB f k) := by
  obtain ⟨cur, h1, h2⟩ := h
  refine ⟨_, set_heap h1 k _, fun j hj => ?_⟩
  have hkc := (Array.getElem?_eq_some_iff.1 (h2 k hk)).1
  by_cases e : j = k
  · subst e
    rw [updB_self, Array.getElem?_setIfInBounds_self_of_lt hkc]
  · rw [updB_ne f e, Array.getElem?_setIfInBounds_ne (fun e2 => e e2.symm)]
    exact h2 j hj
theorem Arr.ne {w : World} {a b n m : Nat} {f : Nat → Int} {g : Nat → Bool} (h : Arr w a n f) (k : ArrB w b m g) : a ≠ b := fun e => by
  subst e
  obtain ⟨c, h1, _⟩ := h
  obtain ⟨d, k1, _⟩ := k
  rw [h1] at k1
  simp at k1
/-- How many were not seen. -/
def unseen (N : Nat) (seen : Nat → Bool) : Nat := ((List.range N).filter fun j => !seen j).length
theorem unseen_lt {N : Nat} {seen cur : Nat → Bool} {k : Nat} (hm : ∀ j, j < N → seen j = true → cur j = true) (hk : k < N) (hc : cur k = false) : unseen N (updB cur k) < unseen N seen := by
  have hsub : ∀ x ∈ k :: (List.range N).filter (fun j => !updB cur k j), x ∈ (List.range N).filter fun j => !seen j := fun x hx => by
    rcases List.mem_cons.1 hx with e | hx
    · rw [e]
      refine List.mem_filter.2 ⟨List.mem_range.2 hk, ?_⟩
      cases hs : seen k with
      | false => rfl
      | true => rw [hm k hk hs] at hc; cases hc
    · obtain ⟨h1, h2⟩ := List.mem_filter.1 hx
      have hxN := List.mem_range.1 h1
      refine List.mem_filter.2 ⟨h1, ?_⟩
      have e : x ≠ k := fun e => by rw [e, updB_self] at h2; simp at h2
      rw [updB_ne _ e] at h2
      cases hs : seen x with
      | false => rfl
      | true => rw [hm x hxN hs] at h2; simp at h2
  have := nodup_le _ _ (List.nodup_cons.2 ⟨fun hx => by
    have := (List.mem_filter.1 hx).2
    rw [updB_self] at this
    simp at this, List.nodup_range.sublist List.filter_sublist⟩) hsub
  simp only [List.length_cons] at this
  exact this
/-- What a try owes. -/
def TryEnd (N : Nat) (f pair : Nat → Int) (seen : Nat → Bool) (i pb sb : Nat) (w : World) (e : Ending) (w' : World) : Prop :=
  Keeps (fun x => x = pb ∨ x = sb) w w' ∧ ((e = .returned (.bool true) ∧ ∃ pair' seen', Arr w' pb N pair' ∧ ArrB w' sb N seen' ∧ TYes N (In f) pair seen i pair') ∨ (e = .returned (.bool false) ∧ ∃ seen', Arr w' pb N pair ∧ ArrB w' sb N seen' ∧ TNo N (In f) pair seen i seen'))
def TryR (N : Nat) (f pair : Nat → Int) (seen : Nat → Bool) (i pb sb : Nat) (w : World) (iv : Value) (wr : World) : Prop :=
  ∃ (k : Nat) (cur : Nat → Bool), k ≤ N ∧ iv = .int .i64 (k : Int) ∧ Arr wr pb N pair ∧ ArrB wr sb N cur ∧ TTo N (In f) pair seen i k cur ∧ Keeps (fun x => x = pb ∨ x = sb) w wr
def TryC (d : Nat) : Prop := ∀ (w : World) (mb lb lc pb pc sb sc N : Nat) (f pair : Nat → Int) (seen : Nat → Bool) (i : Nat), unseen N seen = d →
    w.heap[mb]? = some (.cells #[.slice (some ⟨lb, 0, none⟩) N lc, .slice (some ⟨pb, 0, none⟩) N pc, .slice (some ⟨sb, 0, none⟩) N sc] 128 (0, 0)) → Arr w lb N f → Small N f → Arr w pb N pair → ArrB w sb N seen → lb ≠ pb → N ≤ 300 → TPre N (In f) pair seen i →
    Calls Tryz.prog 66 #[.pointer (some ⟨mb, 0, none⟩), .int .i64 (i : Int)] w fun e w' => TryEnd N f pair seen i pb sb w e w'

set_option maxRecDepth 100000 in
set_option maxHeartbeats 8000000 in
theorem try_any (d : Nat) : TryC d := by
  induction d using Nat.strongRecOn with
  | ind d ih =>
  intro w mb lb lc pb pc sb sc N f pair seen i hd hmb hl hsm hp hs hlp hN hpre
  have IH : Hid (∀ m, m < d → TryC m) := ih
  clear ih
  have nls := hl.ne hs
  have nps := hp.ne hs
  have nmp : mb ≠ pb := fun e => by
    obtain ⟨c, h1, _⟩ := hp
    rw [← e, hmb] at h1
    simp at h1
  have nms : mb ≠ sb := fun e => by
    obtain ⟨c, h1, _⟩ := hs
    rw [← e, hmb] at h1
    simp at h1
  have hiN := hpre.lt
  have HS : Hid (TryR N f pair seen i pb sb w (.int .i64 0) w) := ⟨0, seen, Nat.zero_le _, rfl, hp, hs, TTo.start N _ pair seen i, Keeps.refl _ _⟩
  have HE := hide (And.intro hd (And.intro hmb (And.intro hl (And.intro hsm hpre))))
  clear hd hmb hl hsm hp hs hpre
  go_enter Tryz.func66, Tryz.ntmps66
  go_wp2_with fail
  go_loopw [5] (fun iv wr => TryR N f pair seen i pb sb w iv wr) (fun iv _ => N - (intOf iv).toNat)
  case atStart => exact unhide HS
  case round =>
    obtain ⟨k, cur, hk, rfl, hp, hs, hto, hK⟩ := hrel
    obtain ⟨hd, hmb, hl, hsm, hpre⟩ := unhide HE
    have hmb2 := hK.same _ _ hmb (fun e => by omega)
    have hl2 := hl.keeps hK (fun e => by omega)
    obtain ⟨c0, c1, c2, d0, d1, d2⟩ := three_cells hmb2
    by_cases hkN : k < N
    · obtain ⟨x0, _⟩ := hl2.cell hiN
      obtain ⟨x1, _⟩ := hl2.cell hkN
      obtain ⟨x2, x3⟩ := hs.cell hkN
      have hz := and_sub (f i) (f k) (hsm i hiN).1 (hsm i hiN).2 (hsm k hkN).1 (hsm k hkN).2
      cases hin : inW f i k with
      | false =>
        have HN : Hid (TryR N f pair seen i pb sb w (.int .i64 ((k + 1 : Nat) : Int)) wr) := ⟨k + 1, cur, by omega, rfl, hp, hs, hto.skip (.inl fun e => by rw [inW_iff.2 e] at hin; cases hin), hK⟩
        have hdec : ((k : Int) == (i : Int)) = true ∨ (((k : Int) == (i : Int)) = false ∧ sub (f i) (f k) = false) := by
          unfold inW at hin
          by_cases e : k = i
          · exact .inl (by simp [e])
          · have : ((i : Int) != (k : Int)) = true := by simp; omega
            rw [this, Bool.true_and] at hin
            exact .inr ⟨by simp; omega, hin⟩
        clear hp hs hto hK hd hmb hl hsm hpre hmb2 hl2 hin
        rcases hdec with h1 | ⟨h1, h2⟩
        · generalize f i = fi at x0 hz
          generalize f k = fk at x1 hz
          generalize cur k = ck at x2
          clear hz
          go_wp2_with fail
          go_quiet (fail)
          go_wp2_with fail
          go_roundw
          case rel =>
            obtain ⟨q1, q2, q3, q4, q5, q6, q7, q8⟩ := unhide HN
            rw [Int.natCast_add] at q4
            exact ⟨q1, q2, q3, q4, q5.keeps (Keeps.drewN (Keeps.refl (fun _ => False) _) _) (fun e => e), q6.keeps (Keeps.drewN (Keeps.refl (fun _ => False) _) _) (fun e => e), q7, q8.drewN _⟩
          case measure => simp [intOf]; omega
        · rw [h2] at hz
          generalize f i = fi at x0 hz
          generalize f k = fk at x1 hz
          generalize cur k = ck at x2
          have hz2 : (bits .and .i64 fi fk != fi) = true := hz
          clear h2 hz
          go_wp2_with fail
          go_quiet (fail)
          go_wp2_with fail
          go_roundw
          case rel =>
            obtain ⟨q1, q2, q3, q4, q5, q6, q7, q8⟩ := unhide HN
            rw [Int.natCast_add] at q4
            exact ⟨q1, q2, q3, q4, q5.keeps (Keeps.drewN (Keeps.refl (fun _ => False) _) _) (fun e => e), q6.keeps (Keeps.drewN (Keeps.refl (fun _ => False) _) _) (fun e => e), q7, q8.drewN _⟩
          case measure => simp [intOf]; omega
      | true =>
        have hIn := inW_iff.1 hin
        have h1 : ((k : Int) == (i : Int)) = false := by
          have := hIn.1
          simp; omega
        rw [hIn.2] at hz
        cases hck : cur k with
        | true =>
          have HN : Hid (TryR N f pair seen i pb sb w (.int .i64 ((k + 1 : Nat) : Int)) wr) := ⟨k + 1, cur, by omega, rfl, hp, hs, hto.skip (.inr hck), hK⟩
          rw [hck] at x2
          generalize f i = fi at x0 hz
          generalize f k = fk at x1 hz
          have hz2 : (bits .and .i64 fi fk != fi) = false := hz
          clear hp hs hto hK hd hmb hl hsm hpre hmb2 hl2 hin hIn hz hck
          go_wp2_with fail
          go_quiet (fail)
          go_wp2_with fail
          go_roundw
          case rel =>
            obtain ⟨q1, q2, q3, q4, q5, q6, q7, q8⟩ := unhide HN
            rw [Int.natCast_add] at q4
            exact ⟨q1, q2, q3, q4, q5.keeps (Keeps.drewN (Keeps.refl (fun _ => False) _) _) (fun e => e), q6.keeps (Keeps.drewN (Keeps.refl (fun _ => False) _) _) (fun e => e), q7, q8.drewN _⟩
          case measure => simp [intOf]; omega
        | false =>
          rw [hck] at x2
          obtain ⟨x4, x5⟩ := hp.cell hkN
          have HI := hide (And.intro hp (And.intro hs (And.intro hto (And.intro hK (And.intro hIn (And.intro hck (And.intro hmb2 hl2)))))))
          generalize hfi : f i = fi at x0 hz
          generalize hfk : f k = fk at x1 hz
          have hz2 : (bits .and .i64 fi fk != fi) = false := hz
          clear hp hs hto hK hd hmb hl hsm hpre hmb2 hl2 hin hIn hz hck hfi hfk
          obtain ⟨pk, hpk⟩ : ∃ pk, pk = pair k := ⟨_, rfl⟩
          rw [← hpk] at x4
          have HPK := hide hpk
          clear hpk
          go_wp2_with fail
          go_quiet (fail)
          obtain ⟨wq, hwq⟩ : ∃ wq, wq = wr.drewN nq := ⟨_, rfl⟩
          have hKq : Keeps (fun _ => False) wr wq := by rw [hwq]; exact Keeps.drewN (Keeps.refl (fun _ => False) _) _
          rw [← hwq]
          clear hwq
          obtain ⟨hp, hs, hto, hK, hIn, hck, hmb2, hl2⟩ := unhide HI
          obtain ⟨hd, _, _, hsm, hpre⟩ := unhide HE
          have hmbq := hKq.same _ _ hmb2 (fun e => e)
          have hpq := hp.keeps hKq (fun e => e)
          have hsq := hs.keeps hKq (fun e => e)
          have hlq := hl2.keeps hKq (fun e => e)
          have hKwq : Keeps (fun x => x = pb ∨ x = sb) w wq := hK.trans hKq (fun _ _ e => e.elim)
          obtain ⟨w6, hw6⟩ : ∃ w6, w6 = wq.setCell ⟨sb, k, none⟩ (.bool true) := ⟨_, rfl⟩
          have hK6 : Keeps (fun x => x = sb) wq w6 := by rw [hw6]; exact (Keeps.refl (fun x => x = sb) wq).setCell ⟨sb, k, none⟩ rfl _
          have hmb6 := hK6.same _ _ hmbq (fun e => by omega)
          have hp6 := hpq.keeps hK6 (fun e => nps e)
          have hl6 := hlq.keeps hK6 (fun e => nls e)
          have hs6 : ArrB w6 sb N (updB cur k) := by rw [hw6]; exact hsq.set hkN
          have hKw6 : Keeps (fun x => x = pb ∨ x = sb) w w6 := hKwq.trans hK6 (fun _ _ e => .inr e)
          obtain ⟨e0, e1, e2, g0, g1, g2⟩ := three_cells hmbq
          obtain ⟨y0, y1⟩ := hsq.cell hkN
          obtain ⟨y2, y3⟩ := hpq.cell hkN
          rw [hck] at y0
          have nsm : sb ≠ mb := fun e => nms e.symm
          have nsp : sb ≠ pb := fun e => nps e.symm
          by_cases hfree : pair k = -1
          · rw [hfree] at y2
            have HF : Hid (TryEnd N f pair seen i pb sb w (.returned (.bool true)) (w6.setCell ⟨pb, k, none⟩ (.int .i64 (i : Int)))) :=
              ⟨hKw6.setCell ⟨pb, k, none⟩ (.inl rfl) _, .inl ⟨rfl, upd pair k i, updB cur k, hp6.set _ hkN, hs6.keeps ((Keeps.refl (fun x => x = pb) w6).setCell ⟨pb, k, none⟩ rfl _) (fun e => nsp e), hto.free hpre hkN hck hIn hfree⟩⟩
            rw [hw6] at HF
            clear hp hs hto hK hIn hck hmb2 hl2 hd hsm hpre hmbq hpq hsq hlq hKwq hw6 hK6 hmb6 hp6 hl6 hs6 hKw6 hfree hKq x0 x1 x2 x3 x4 x5 c0 c1 c2 d0 d1 d2
            go_wp2_with fail
            go_ret
            exact unhide HF
          · obtain ⟨v, hvN, hv, _⟩ := (hpre.ok k hkN).resolve_left hfree
            rw [hv] at y2
            have hrec := unhide IH (unseen N (updB cur k)) (by rw [← hd]; exact unseen_lt hto.mono hkN hck) w6 mb lb lc pb pc sb sc N f pair (updB cur k) v rfl hmb6 hl6 hsm hp6 hs6 hlp hN (hto.pre hpre hkN hck hv)
            have hv0 : ¬ ((v : Int) < 0) := by omega
            have HF := hide (And.intro hto (And.intro hpre (And.intro hck (And.intro hIn (And.intro hv (And.intro hmb6 hKw6))))))
            clear hp hs hto hK hIn hck hmb2 hl2 hd hsm hpre hmbq hpq hsq hlq hKwq hK6 hmb6 hp6 hl6 hs6 hKw6 hfree hKq x0 x1 x2 x3 x4 x5 c0 c1 c2 d0 d1 d2 hv
            subst hw6
            go_wp2_with fail
            refine hrec.mono ?_
            clear hrec
            rintro e w7 ⟨hK7, ⟨rfl, pair1, seen1, hp7, hs7, hy⟩ | ⟨rfl, seen1, hp7, hs7, hno⟩⟩
            · obtain ⟨hto, hpre, hck, hIn, hv, hmb6, hKw6⟩ := unhide HF
              have hmb7 := hK7.same _ _ hmb6 (fun e => by omega)
              obtain ⟨a0, a1, a2, _⟩ := three_cells hmb7
              obtain ⟨b0, b1⟩ := hp7.cell hkN
              have HF7 : Hid (TryEnd N f pair seen i pb sb w (.returned (.bool true)) (w7.setCell ⟨pb, k, none⟩ (.int .i64 (i : Int)))) :=
                ⟨(hKw6.trans hK7 (fun _ _ e => e)).setCell ⟨pb, k, none⟩ (.inl rfl) _, .inl ⟨rfl, upd pair1 k i, seen1, hp7.set _ hkN, hs7.keeps ((Keeps.refl (fun x => x = pb) w7).setCell ⟨pb, k, none⟩ rfl _) (fun e => nsp e), hto.took hpre hkN hck hIn hv hy⟩⟩
              generalize pair1 k = p1 at b0
              clear hto hpre hck hIn hv hmb6 hKw6 hmb7 hK7 hp7 hs7 hy e0 e1 e2 g0 g1 g2 y0 y1 y2 y3
              go_wp2_with fail
              go_ret
              exact unhide HF7
            · obtain ⟨hto, hpre, hck, hIn, hv, hmb6, hKw6⟩ := unhide HF
              have HF7 : Hid (TryR N f pair seen i pb sb w (.int .i64 ((k + 1 : Nat) : Int)) w7) := ⟨k + 1, seen1, by omega, rfl, hp7, hs7, hto.kept hkN hv hno, hKw6.trans hK7 (fun _ _ e => e)⟩
              clear hto hpre hck hIn hv hmb6 hKw6 hK7 hp7 hs7 hno e0 e1 e2 g0 g1 g2 y0 y1 y2 y3
              go_wp2_with fail
              go_roundw
              case rel =>
                have := unhide HF7
                rw [Int.natCast_add] at this
                exact this
              case measure => simp [intOf]; omega
    · have hkN2 : k = N := by omega
      rw [hkN2] at hto
      have HN := hide (And.intro hp (And.intro hs (And.intro hto.done hK)))
      have hnk : ¬ ((k : Int) < (N : Int)) := by omega
      clear hp hs hto hK hd hmb hl hsm hpre hmb2 hl2 hkN2
      go_wp2_with fail
      go_ret
      obtain ⟨hp, hs, hno, hK⟩ := unhide HN
      exact ⟨hK, .inr ⟨rfl, cur, hp, hs, hno⟩⟩
end Go.Proofs.YthcljhfankooaabGreat.C

namespace Go.Proofs.YthcljhfankooaabGreat.C
open Go.RowKit Go.Shelf Go.Maps

theorem app1_big {base : Nat} (w : World) (v : Value) (l : List Int) (x : Int) (h : OwnI base w v l) (hb : base ≤ w.heap.size) (hn : (l.length + 1) * 8 ≤ 140737488355328) :
    ∃ r w', (Builtin.append_ #[32, 32] 32 #[v, .slice (some ⟨w.heap.size, 0, none⟩) 1 1]).run Tryz.prog (w.alloc (.cells #[.int .i64 x] 3)) = .ok r w' ∧ OwnI base w' r (l ++ [x]) ∧ Keeps (fun b => some b = v.ownBlock) w w' := by
  obtain ⟨i, h1, h2, h3, h4⟩ := infoI
  have ht : Tryz.prog.underlying 32 = some (.slice 3) := by kernel_rfl
  obtain ⟨r, w', hr, ho, hg, _, hat⟩ := run_append_own_at (P := Tryz.prog) (w.alloc (.cells #[.int .i64 x] 3)) base 32 32 3 i (.int .i64 0) 1 8 ht h1 h2 h3 h4 rfl (by decide) v l.length (l.map (Value.int .i64)) (World.ownsRow.alloc h _) ⟨w.heap.size, 0, none⟩ 1 1 [.int .i64 x] rfl (fun j u hj => by
    cases j with
    | zero =>
      simp only [List.getElem?_cons_zero, Option.some.injEq] at hj
      subst hj
      rw [Addr.add_lit]
      exact (cell_at (World.alloc_heap_new _ _) _).trans rfl
    | succ j => simp at hj) (fun u hu => by simp at hu; subst hu; rfl) (by unfold maxLen; omega) hn (by simp; omega)
  refine ⟨r, w', hr, ?_, ((Keeps.refl _ w).alloc _).trans (keeps_grown (O := fun b => some b = v.ownBlock) hg (fun b hb => hb)) (fun _ _ e => e)⟩
  unfold OwnI
  simpa using ho
theorem look_more {l : List Int} {one : Int} {wd : Nat} (h : lookE wd l ≠ 0) : lookE wd (l ++ [one]) ≠ 0 := by
  unfold lookE at h ⊢
  rw [List.length_append]
  by_cases h1 : l.length ≤ 256
  · rw [if_pos h1] at h
    by_cases h2 : l.all (okB wd) = true
    · rw [if_pos h2] at h; exact absurd rfl h
    · have h3 : ¬ (l ++ [one]).all (okB wd) = true := fun g => by rw [List.all_append, Bool.and_eq_true] at g; exact h2 g.1
      rw [if_neg h3]
      split <;> simp
  · rw [if_neg (by simp; omega)]
    simp
theorem IsLeast.pos {l : List Int} {n : Nat} (h : IsLeast l n) : 1 ≤ n := by
  obtain ⟨W, h1, h0, hn, ps, ht, hl⟩ := h
  have hz : (0 : Int) ∈ W := (h1 0).2 (.inl rfl)
  have := nodup_le _ (W.erase 0) ht.1.high fun x hx => by
    obtain ⟨p, hp, rfl⟩ := List.mem_map.1 hx
    have o := ht.1.ok p hp
    have l := ht.1.lt h0 hp
    have := h0 _ o.1
    exact (List.mem_erase_of_ne (by omega)).2 o.2.1
  have h2 := List.length_erase_of_mem hz
  have h3 := List.length_pos_of_mem hz
  rw [List.length_map] at this
  omega
theorem IsLeast.le {l : List Int} {n : Nat} (h : IsLeast l n) : n ≤ l.length + 1 := by
  obtain ⟨W, h1, _, hn, ps, _, hl⟩ := h
  have := nodup_le W (0 :: l) hn fun x hx => List.mem_cons.2 ((h1 x).1 hx)
  simp only [List.length_cons] at this
  omega
theorem IsLeast.more {l : List Int} {one : Int} {n m : Nat} (h : IsLeast l n) (g : IsLeast (l ++ [one]) m) : m = n ∨ m = n + 1 := by
  obtain ⟨W, h1, _, h2⟩ := h
  obtain ⟨V, g1, g0, g2⟩ := g
  refine h2.more g2 one g0 fun x => ?_
  rw [g1, h1, List.mem_append, List.mem_singleton]
  constructor
  · rintro (e | e | e)
    · exact .inr (.inl e)
    · exact .inr (.inr e)
    · exact .inl e
  · rintro (e | e | e)
    · exact .inr (.inr e)
    · exact .inl e
    · exact .inr (.inl e)



end Go.Proofs.YthcljhfankooaabGreat.C
