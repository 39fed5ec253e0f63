/- A store in memory: the struct, what it holds, its two tables, the row of nodes and the map; what stays when one of them turns. -/
import Derived.Test.YtbfkcfhkccicoaaDoorStoK
namespace Go.Proofs.YtbfkcfhkccicoaaDoor
open Go.RowKit Go.Maps Go.WideMaps

def nThere (ns : List (List Int)) (n : List Int) : Bool := decide (n ∈ ns)
/-- At which place a node stands first. -/
def nIdx : List (List Int) → List Int → Nat
  | [], _ => 0
  | x :: xs, n => if x = n then 0 else nIdx xs n + 1
def nNum (ns : List (List Int)) (n : List Int) : Nat := if n ∈ ns then nIdx ns n else 0
theorem nIdx_old : ∀ {ns : List (List Int)} {n m : List Int}, n ∈ ns → nIdx (ns ++ [m]) n = nIdx ns n
  | [], _, _, h => by cases h
  | x :: xs, n, m, h => by
    simp only [List.cons_append, nIdx]
    by_cases e : x = n
    · rw [if_pos e, if_pos e]
    · rw [if_neg e, if_neg e, nIdx_old ((List.mem_cons.1 h).resolve_left (fun e2 => e e2.symm))]
theorem nIdx_new : ∀ {ns : List (List Int)} {n : List Int}, n ∉ ns → nIdx (ns ++ [n]) n = ns.length
  | [], n, _ => by simp [nIdx]
  | x :: xs, n, h => by
    simp only [List.cons_append, nIdx, List.length_cons]
    rw [if_neg (fun e => h (by simp [e])), nIdx_new (fun e => h (by simp [e]))]
theorem nIdx_at : ∀ {ns : List (List Int)} {n : List Int}, n ∈ ns → ns[nIdx ns n]? = some n ∧ nIdx ns n < ns.length
  | [], _, h => by cases h
  | x :: xs, n, h => by
    simp only [nIdx]
    by_cases e : x = n
    · rw [if_pos e]; simp [e]
    · have := nIdx_at ((List.mem_cons.1 h).resolve_left (fun e2 => e e2.symm))
      rw [if_neg e]
      exact ⟨by simpa using this.1, by simpa using this.2⟩
theorem ints_inj : ∀ {l m : List Int}, l.map (Value.int .i64) = m.map (Value.int .i64) → l = m
  | [], [], _ => rfl
  | [], _ :: _, h => by cases h
  | _ :: _, [], h => by cases h
  | x :: l, y :: m, h => by
    simp only [List.map_cons, List.cons.injEq] at h
    obtain ⟨h1, h2⟩ := h
    injection h1 with _ h1
    rw [h1, ints_inj h2]

theorem ndVal_inj {l m : List Int} (h : ndVal l = ndVal m) : l = m := by
  unfold ndVal at h
  injection h with h
  have h2 := congrArg Array.toList h
  exact ints_inj h2

/-- A map as read holds just the list's nodes, each with its number. -/
def NTies (D : DataW Unit) (ns : List (List Int)) : Prop :=
  IsMap D ∧ ∀ (n : Nd) (kl : Lit), InBits n.list → keyOf Tryd.prog 81 (ndVal n.list) = some kl → Maps.has D kl = nThere ns n.list ∧ D.atKey kl (.lit (.int .i64 0)) = .lit (.int .i64 (nNum ns n.list))
theorem nties_empty : NTies (.map []) [] := ⟨isMap_empty, fun _ _ _ _ => ⟨rfl, rfl⟩⟩
theorem NTies.snoc {D : DataW Unit} {ns : List (List Int)} {n : Nd} {kl : Lit} (h : NTies D ns) (hk : keyOf Tryd.prog 81 (ndVal n.list) = some kl) (hn : n.list ∉ ns) :
    NTies (D.put kl (.lit (.int .i64 (ns.length : Int)))) (ns ++ [n.list]) := by
  refine ⟨h.1.put _ _, fun t kt ht hkt => ?_⟩
  by_cases e : n.list = t.list
  · have ek : kt = kl := by rw [e, hkt] at hk; exact Option.some.inj hk
    subst ek
    rw [has_put_same h.1 (law98.key hkt), atKey_put_same h.1 (law98.key hkt)]
    refine ⟨?_, ?_⟩
    · unfold nThere; rw [← e]; simp
    · unfold nNum
      rw [← e, if_pos (by simp), nIdx_new hn]
  · have hne : kt ≠ kl := fun e2 => e (ndVal_inj (law98.inj (hk.trans (congrArg some e2.symm)) hkt))
    rw [has_put_other hne, atKey_put_other hne, (h.2 t kt ht hkt).1, (h.2 t kt ht hkt).2]
    refine ⟨?_, ?_⟩
    · unfold nThere
      by_cases hm : t.list ∈ ns <;> simp [hm, Ne.symm e]
    · unfold nNum
      by_cases hm : t.list ∈ ns
      · rw [if_pos hm, if_pos (by simp [hm]), nIdx_old hm]
      · rw [if_neg hm, if_neg (by simp [hm, Ne.symm e])]

abbrev NRow (W : World) (base : Nat) (a : Option Addr) (cap : Nat) (ns : List (List Int)) : Prop :=
  W.ownsRow base 81 18 (.slice a ns.length cap) ns.length (ns.flatMap fun l => l.map (Value.int .i64))

/-- Where a store's blocks lie. -/
structure SP where
  base : Nat
  sb : Nat
  hb : Nat
  mb : Nat
  t1 : Nat
  h1 : Nat
  m1 : Nat
  t2 : Nat
  h2 : Nat
  m2 : Nat
  a1 : Option Addr
  a2 : Option Addr
  na : Option Addr
  c1 : Nat
  c2 : Nat
  nc : Nat

/-- The blocks of each table. -/
def SP.one (p : SP) (k : Nat) : Prop := k = p.t1 ∨ Sym.mine p.h1 p.m1 p.a1 k
def SP.two (p : SP) (k : Nat) : Prop := k = p.t2 ∨ Sym.mine p.h2 p.m2 p.a2 k
/-- The blocks that a call may turn. -/
def SP.own (p : SP) (k : Nat) : Prop := k = p.hb ∨ k = p.mb ∨ p.one k ∨ p.two k ∨ p.na.map Addr.block = some k

/-- What a store knows: the Syms' texts, the Cons' words, the nodes. -/
structure SS where
  xs : List ByteArray
  ws : List ByteArray
  ns : List (List Int)

structure Sto (W : World) (p : SP) (S : SS) : Prop where
  st : W.heap[p.sb]? = some (.cells #[.pointer (some ⟨p.hb, 0, none⟩)] 54 (0, 0))
  held : W.heap[p.hb]? = some (.cells #[.pointer (some ⟨p.t1, 0, none⟩), .pointer (some ⟨p.t2, 0, none⟩), .slice p.na S.ns.length p.nc, .map (some p.mb)] 52 (0, 0))
  T1 : Sym.Tab W p.base p.t1 p.h1 p.m1 p.a1 p.c1 S.xs
  T2 : Sym.Tab W p.base p.t2 p.h2 p.m2 p.a2 p.c2 S.ws
  row : NRow W p.base p.na p.nc S.ns
  map : ∃ D : DataW Unit, W.ownsMap Tryd.prog 81 (plainElem Tryd.prog 3) p.mb S.ns.length D ∧ NTies D S.ns
  len : S.ns.length ≤ 16384
  apart : ∀ k, p.one k → ¬ p.two k
  mb1 : ¬ p.one p.mb
  mb2 : ¬ p.two p.mb
  low : p.base ≤ p.sb ∧ p.base ≤ p.hb ∧ p.base ≤ p.mb ∧ p.base ≤ p.t1 ∧ p.base ≤ p.t2

section
variable {W W' : World} {p p' : SP} {S S' : SS}
theorem Sto.mb_obj (h : Sto W p S) : ∃ es clock, W.heap[p.mb]? = some (.map es clock) := by
  obtain ⟨D, ⟨es, clock, hm, _⟩, _⟩ := h.map
  exact ⟨es, clock, hm⟩
theorem NRow.obj {base : Nat} {a : Option Addr} {cap : Nat} {ns : List (List Int)} (h : NRow W base a cap ns) : ∀ k, a.map Addr.block = some k → base ≤ k ∧ ∃ cur, W.heap[k]? = some (.cells cur 81 (0, 0)) := fun k e => by
  rcases h.2 with ⟨e1, _⟩ | ⟨g, c, cur, e1, hb, hg, _⟩
  · injection e1 with e2 _ _; subst e2; simp at e
  · injection e1 with e2 _ _; subst e2
    have : g = k := by simpa using e
    subst this
    exact ⟨hb, cur, hg⟩
/-- What kind of thing lies in a table's block. -/
theorem tab_obj {base tb hb mb : Nat} {a : Option Addr} {cap : Nat} {xs : List ByteArray} (h : Sym.Tab W base tb hb mb a cap xs) : ∀ k, (k = tb ∨ Sym.mine hb mb a k) →
    base ≤ k ∨ k = tb := by
  rintro k (e | e)
  · exact .inr e
  · exact .inl (h.mine_lt k e).1
theorem tab_type {base tb hb mb : Nat} {a : Option Addr} {cap : Nat} {xs : List ByteArray} (h : Sym.Tab W base tb hb mb a cap xs) : ∀ k, (k = tb ∨ Sym.mine hb mb a k) →
    (∃ c t, W.heap[k]? = some (.cells c t (0, 0)) ∧ (t = 68 ∨ t = 66 ∨ t = 9)) ∨ ∃ es clock, W.heap[k]? = some (.map es clock) := by
  rintro k (e | e | e | e)
  · subst e; exact .inl ⟨_, _, h.tab, .inl rfl⟩
  · subst e; exact .inl ⟨_, _, h.held, .inr (.inl rfl)⟩
  · subst e; exact .inr h.mb_obj
  · obtain ⟨cur, hc⟩ := h.row.obj k e
    exact .inl ⟨_, _, hc, .inr (.inr rfl)⟩
theorem Sto.own_lt (h : Sto W p S) : ∀ k, p.own k → p.base ≤ k ∧ k < W.heap.size := by
  rintro k (e | e | e | e | e)
  · subst e; exact ⟨h.low.2.1, Sym.lt_of_heap h.held⟩
  · subst e; obtain ⟨es, clock, hm⟩ := h.mb_obj; exact ⟨h.low.2.2.1, Sym.lt_of_heap hm⟩
  · rcases e with e | e
    · subst e; exact ⟨h.low.2.2.2.1, Sym.lt_of_heap h.T1.tab⟩
    · exact h.T1.mine_lt k e
  · rcases e with e | e
    · subst e; exact ⟨h.low.2.2.2.2, Sym.lt_of_heap h.T2.tab⟩
    · exact h.T2.mine_lt k e
  · obtain ⟨hb, cur, hc⟩ := h.row.obj k e
    exact ⟨hb, Sym.lt_of_heap hc⟩
theorem Sto.sb_not (h : Sto W p S) : ¬ p.own p.sb := by
  have h0 := h.st
  rintro (e | e | e | e | e)
  · rw [e, h.held] at h0; simp at h0
  · obtain ⟨es, clock, hm⟩ := h.mb_obj; rw [e, hm] at h0; cases h0
  · rcases tab_type h.T1 _ e with ⟨c, t, hc, ht⟩ | ⟨es, clock, hm⟩
    · rw [hc] at h0; rcases ht with rfl | rfl | rfl <;> simp at h0
    · rw [hm] at h0; cases h0
  · rcases tab_type h.T2 _ e with ⟨c, t, hc, ht⟩ | ⟨es, clock, hm⟩
    · rw [hc] at h0; rcases ht with rfl | rfl | rfl <;> simp at h0
    · rw [hm] at h0; cases h0
  · obtain ⟨_, cur, hc⟩ := h.row.obj _ e
    rw [hc] at h0; simp at h0
theorem Sto.hb_not (h : Sto W p S) : p.hb ≠ p.mb ∧ ¬ p.one p.hb ∧ ¬ p.two p.hb ∧ ¬ p.na.map Addr.block = some p.hb := by
  have h0 := h.held
  refine ⟨fun e => ?_, fun e => ?_, fun e => ?_, fun e => ?_⟩
  · obtain ⟨es, clock, hm⟩ := h.mb_obj; rw [e, hm] at h0; cases h0
  · rcases tab_type h.T1 _ e with ⟨c, t, hc, ht⟩ | ⟨es, clock, hm⟩
    · rw [hc] at h0; rcases ht with rfl | rfl | rfl <;> simp at h0
    · rw [hm] at h0; cases h0
  · rcases tab_type h.T2 _ e with ⟨c, t, hc, ht⟩ | ⟨es, clock, hm⟩
    · rw [hc] at h0; rcases ht with rfl | rfl | rfl <;> simp at h0
    · rw [hm] at h0; cases h0
  · obtain ⟨_, cur, hc⟩ := h.row.obj _ e
    rw [hc] at h0; simp at h0
theorem Sto.row_not (h : Sto W p S) : ∀ k, p.na.map Addr.block = some k → k ≠ p.mb ∧ ¬ p.one k ∧ ¬ p.two k := fun k e => by
  obtain ⟨_, cur, h0⟩ := h.row.obj _ e
  refine ⟨fun e => ?_, fun e => ?_, fun e => ?_⟩
  · obtain ⟨es, clock, hm⟩ := h.mb_obj; rw [e, hm] at h0; cases h0
  · rcases tab_type h.T1 _ e with ⟨c, t, hc, ht⟩ | ⟨es, clock, hm⟩
    · rw [hc] at h0; rcases ht with rfl | rfl | rfl <;> simp at h0
    · rw [hm] at h0; cases h0
  · rcases tab_type h.T2 _ e with ⟨c, t, hc, ht⟩ | ⟨es, clock, hm⟩
    · rw [hc] at h0; rcases ht with rfl | rfl | rfl <;> simp at h0
    · rw [hm] at h0; cases h0

theorem NRow.stays {base : Nat} {a : Option Addr} {cap : Nat} {ns : List (List Int)} {Q : Nat → Prop} (h : NRow W base a cap ns) (t : Turn Q W W') (hS : ∀ k, a.map Addr.block = some k → ¬ Q k) : NRow W' base a cap ns := by
  refine ⟨h.1, ?_⟩
  rcases h.2 with e | ⟨g, c, cur, e1, hb, hg, h3⟩
  · exact .inl e
  · have e2 : a = some ⟨g, 0, none⟩ := by injection e1
    exact .inr ⟨g, c, cur, e1, hb, (t.block g (Sym.lt_of_heap hg) (hS g (by rw [e2]; rfl))).trans hg, h3⟩
/-- A store stays where its blocks stay. -/
theorem Sto.later (h : Sto W p S) (t : Below W.heap.size W W') : Sto W' p S := by
  obtain ⟨D, hm, hD⟩ := h.map
  have hm2 := hm
  obtain ⟨es, clock, hmb, hr⟩ := hm
  exact ⟨(t.block _ (Sym.lt_of_heap h.st)).trans h.st, (t.block _ (Sym.lt_of_heap h.held)).trans h.held, h.T1.later t, h.T2.later t, h.row.stays (Q := fun _ => False) (Turn.of_below t) (fun _ _ e => e),
    ⟨D, ⟨es, clock, (t.block _ (Sym.lt_of_heap hmb)).trans hmb, hr⟩, hD⟩, h.len, h.apart, h.mb1, h.mb2, h.low⟩
theorem Sto.stays {Q : Nat → Prop} (h : Sto W p S) (t : Turn Q W W') (hQ : ∀ k, (k = p.sb ∨ p.own k) → ¬ Q k) : Sto W' p S := by
  obtain ⟨D, hm, hD⟩ := h.map
  obtain ⟨es, clock, hmb, hr⟩ := hm
  exact ⟨(t.block _ (Sym.lt_of_heap h.st) (hQ _ (.inl rfl))).trans h.st, (t.block _ (Sym.lt_of_heap h.held) (hQ _ (.inr (.inl rfl)))).trans h.held,
    h.T1.stays t (fun k e => hQ k (.inr (.inr (.inr (.inl e))))), h.T2.stays t (fun k e => hQ k (.inr (.inr (.inr (.inr (.inl e)))))), h.row.stays t (fun k e => hQ k (.inr (.inr (.inr (.inr (.inr e)))))),
    ⟨D, ⟨es, clock, (t.block _ (Sym.lt_of_heap hmb) (hQ _ (.inr (.inr (.inl rfl))))).trans hmb, hr⟩, hD⟩, h.len, h.apart, h.mb1, h.mb2, h.low⟩

/-- From one world to the next by calls on the store: its own blocks alone turn, and it takes new blocks alone. -/
structure Step (W W' : World) (p p' : SP) : Prop where
  turn : Turn p.own W W'
  own : ∀ k, p'.own k → p.own k ∨ W.heap.size ≤ k
  sb : p'.sb = p.sb
  hb : p'.hb = p.hb
  base : p'.base = p.base
theorem Step.refl (W : World) (p : SP) : Step W W p p := ⟨Turn.refl _ _, fun _ h => .inl h, rfl, rfl, rfl⟩
theorem Step.trans {W'' : World} {p'' : SP} (h : Step W W' p p') (k : Step W' W'' p' p'') : Step W W'' p p'' :=
  ⟨h.turn.trans k.turn (fun i hi e => (h.own i e).elim id (fun e => absurd e (by omega))), fun i e => (k.own i e).elim (h.own i) (fun e => .inr (Nat.le_trans h.turn.size e)), k.sb.trans h.sb, k.hb.trans h.hb, k.base.trans h.base⟩
theorem Step.before {U : World} (b : Below U.heap.size U W) (h : Step W W' p p') : Step U W' p p' :=
  ⟨(Turn.of_below b).trans h.turn (fun _ _ e => e), fun k e => (h.own k e).elim .inl (fun e => .inr (Nat.le_trans b.size e)), h.sb, h.hb, h.base⟩
theorem Step.after {U : World} (h : Step W W' p p') (b : Below W'.heap.size W' U) : Step W U p p' :=
  ⟨h.turn.trans (Turn.of_below (S := fun _ => False) b) (fun _ _ e => e.elim), h.own, h.sb, h.hb, h.base⟩
end
end Go.Proofs.YtbfkcfhkccicoaaDoor
