/- Values that are put one behind the other: plain facts. Store.Back, of a value that was put. TermBack: what stands between two Puts. -/
import Derived.Test.YtbfkcfhkccicoaaDoorBackMN
import Derived.Test.YtbfkcfhkccicoaaDoorSortsM
import Derived.Test.YtbfkcfhkccicoaaDoorBackT
namespace Go.Proofs.YtbfkcfhkccicoaaDoor
open Go.RowKit

/-- All nodes are as long as a node is. -/
def SS.Long (S : SS) : Prop := ∀ l ∈ S.ns, l.length = 18
theorem putNode_long {S : SS} {word : ByteArray} {n : Nd} (h : S.Long) : (putNodeV S word n).2.Long := by
  unfold putNodeV
  split
  · exact h
  · split
    · exact h
    · intro l hl
      rcases List.mem_append.1 hl with hl | hl
      · exact h l hl
      · rw [List.mem_singleton.1 hl]; exact Nd.len _
theorem putV_long : ∀ (v : V) (d : Nat) (S : SS), v.may d = true → S.Long → (v.putV S).2.Long := by
  refine V.ind fun v ih d S hm h => ?_
  rcases kinds_of hm with hk | hk | hk
  · rw [V.putV_num hk]; exact h
  · rw [V.putV_sym hk]; exact h
  · have hargs : ∀ k, k ≤ v.len → (argsTo (fun i S => (v.kid i).putV S) k S).S.Long := by
      intro k
      induction k with
      | zero => intro _; exact h
      | succ k ihk =>
        intro hkl
        have hmk := may_kids hm hk k (by omega)
        simp only [argsTo]
        split
        · exact ih k (by omega) (d - 1) _ hmk (ihk (by omega))
        · exact ihk (by omega)
    rw [V.putV_con hk]
    split
    · exact putNode_long (hargs v.len (Nat.le_refl _))
    · exact hargs v.len (Nat.le_refl _)

theorem putNode_err (S : SS) (word : ByteArray) (n : Nd) : (putNodeV S word n).1.2 = 0 ∨ (putNodeV S word n).1.2 = 18 := by
  unfold putNodeV
  split
  · exact .inl rfl
  · split
    · exact .inr rfl
    · exact .inl rfl
theorem ansE_or (xs : List ByteArray) (s : ByteArray) : Sym.ansE xs s = 0 ∨ Sym.ansE xs s = 18 := by
  unfold Sym.ansE
  split
  · exact .inl rfl
  · split
    · exact .inr rfl
    · exact .inl rfl
theorem putV_err : ∀ (v : V) (d : Nat) (S : SS), v.may d = true → (v.putV S).1.2 = 0 ∨ (v.putV S).1.2 = 18 := by
  refine V.ind fun v ih d S hm => ?_
  rcases kinds_of hm with hk | hk | hk
  · rw [V.putV_num hk]; exact .inl rfl
  · rw [V.putV_sym hk]; exact ansE_or _ _
  · have hargs : ∀ k, k ≤ v.len → (argsTo (fun i S => (v.kid i).putV S) k S).err = 0 ∨ (argsTo (fun i S => (v.kid i).putV S) k S).err = 18 := by
      intro k
      induction k with
      | zero => intro _; exact .inl rfl
      | succ k ihk =>
        intro hkl
        have hmk := may_kids hm hk k (by omega)
        simp only [argsTo]
        split
        · exact ih k (by omega) (d - 1) _ hmk
        · exact ihk (by omega)
    rw [V.putV_con hk]
    split
    · exact putNode_err _ _ _
    · exact hargs v.len (Nat.le_refl _)
theorem putAll_err (v : V) (S : SS) : (putAll v S).1.2 = 0 ∨ ((putAll v S).1.2 = 1 ∧ v.right = false) ∨ (putAll v S).1.2 = 18 := by
  unfold putAll
  cases h : v.right with
  | true => simp only [if_true]; exact (putV_err v 32 S (right_may h)).elim .inl (fun e => .inr (.inr e))
  | false => exact .inr (.inl ⟨rfl, rfl⟩)
theorem putAll_right {v : V} {S : SS} (h : (putAll v S).1.2 = 0) : v.right = true ∧ putAll v S = v.putV S := by
  unfold putAll at h ⊢
  cases hr : v.right with
  | true => exact ⟨rfl, if_pos rfl⟩
  | false => rw [hr] at h; simp at h

/-- What stands behind k Puts. -/
def putsTo (kid : Nat → V) : Nat → SS
  | 0 => S0
  | k + 1 => (putAll (kid k) (putsTo kid k)).2
def numAt (kid : Nat → V) (k : Nat) : Int := (putAll (kid k) (putsTo kid k)).1.1
def errAt (kid : Nat → V) (k : Nat) : Int := (putAll (kid k) (putsTo kid k)).1.2

structure PutsOk (kid : Nat → V) (k : Nat) : Prop where
  ok : (putsTo kid k).Ok
  dis : (putsTo kid k).Dis
  long : (putsTo kid k).Long
  right : ∀ i, i < k → (kid i).right = true
  isIn : ∀ i, i < k → (kid i).IsIn (putsTo kid k) (numAt kid i)
theorem putsOk_zero (kid : Nat → V) : PutsOk kid 0 :=
  ⟨⟨Nat.le_refl _, fun l hl => (by cases hl)⟩, ⟨List.nodup_nil, List.nodup_nil, List.nodup_nil⟩, fun l hl => (by cases hl), fun i hi => absurd hi (Nat.not_lt_zero i), fun i hi => absurd hi (Nat.not_lt_zero i)⟩
theorem PutsOk.next {kid : Nat → V} {k : Nat} (h : PutsOk kid k) (he : errAt kid k = 0) : PutsOk kid (k + 1) := by
  obtain ⟨hr, e⟩ := putAll_right he
  have hm := right_may hr
  have hin := putV_in (kid k) 32 (putsTo kid k) hm h.ok (by rw [← e]; exact he)
  have hle := putV_le (kid k) 32 (putsTo kid k) hm
  refine ⟨putAll_ok h.ok, ?_, ?_, fun i hi => ?_, fun i hi => ?_⟩
  · show ((putAll _ _).2).Dis
    rw [e]; exact putV_dis _ 32 _ hm h.ok h.dis
  · show ((putAll _ _).2).Long
    rw [e]; exact putV_long _ 32 _ hm h.long
  · rcases Nat.lt_or_eq_of_le (Nat.lt_succ_iff.1 hi) with g | rfl
    · exact h.right i g
    · exact hr
  · show (kid i).IsIn ((putAll _ _).2) _
    rcases Nat.lt_or_eq_of_le (Nat.lt_succ_iff.1 hi) with g | rfl
    · rw [e]
      exact IsIn.more hle _ 32 _ (right_may (h.right i g)) (h.isIn i g)
    · unfold numAt
      rw [e]
      exact hin

theorem ordAll_right {a b : V} (ha : a.right = true) (hb : b.right = true) : ordAll a b = a.ord b := by
  unfold ordAll
  rw [ha, hb]; rfl
/-- The same number, of one kind, just where they are the same. -/
theorem PutsOk.same {kid : Nat → V} {n i k : Nat} (h : PutsOk kid n) (hi : i < n) (hk : k < n) (e : (kid k).kind = (kid i).kind) : (numAt kid k == numAt kid i) = (ordAll (kid k) (kid i) == 0) := by
  rw [ordAll_right (h.right k hk) (h.right i hi), Bool.eq_iff_iff, beq_iff_eq, beq_iff_eq]
  exact isIn_same h.dis (kid k) (kid i) 32 32 _ _ (right_may (h.right k hk)) (right_may (h.right i hi)) e (h.isIn k hk) (h.isIn i hi)
theorem ord_back {u v : V} (h : u.ord v = 0) : (v.ord u == 0) = true := by
  rw [ord_neg u v, h]; rfl
end Go.Proofs.YtbfkcfhkccicoaaDoor

namespace Go.Proofs.YtbfkcfhkccicoaaDoor
open Go.RowKit Go.Maps Go.Deep

theorem back_all : ∀ v : V, BackC v := back_any fun v ih hk => backCon_any v ih hk

set_option maxRecDepth 100000 in
set_option maxHeartbeats 4000000 in
theorem sback_any (v : V) (W : World) (p : SP) (S : SS) (d : Nat) (m : Int) (h : Sto W p S) (h18 : ∀ l ∈ S.ns, l.length = 18) (hm : v.may d = true) (hs : v.Small) (hin : v.IsIn S m) :
    Calls Tryd.prog 12 #[.pointer (some ⟨p.sb, 0, none⟩), .int .i64 v.kind, .int .i64 m] W fun e w' => ∃ r, e = .returned (.tuple #[r, .bool true]) ∧ Got W w' v r ∧ Below W.heap.size W w' := by
  have b1 := below_box W (.cells #[.int .i64 0, .int .i64 0, .string ⟨#[]⟩, .slice none 0 0] 32)
  have h1 := h.later b1
  have HC := hide (back_all v _ p S d m h1 h18 hm hs hin)
  have HM := hide (smade_any h1)
  have c0 := h1.c0
  clear h h1 hin hs hm h18
  go_enter Tryd.func12, Tryd.ntmps12
  go_wp2_with fail
  refine (unhide HM).mono ?_
  rintro e w' ⟨rfl, rfl⟩
  go_wp2_with fail
  refine (unhide HC).mono ?_
  rintro e w2 ⟨r, rfl, ⟨u, rfl, hu, hlike, hfar, hpl⟩, b2⟩
  have hbx : CellsAt w2 W.heap.size 0 V.none := (boxed W V.none).below b2 (by simp)
  have hob : w2.heap[W.heap.size]? = some V.none.obj := (b2.block W.heap.size (by simp)).trans (World.alloc_heap_new W _)
  have f0 : ∀ o, w2.frozen? ⟨W.heap.size, o, none⟩ = false := fun o => by simp [World.frozen?, hob, V.obj]
  have x0 := hbx.z.1
  have x1 := hbx.z.2.1
  have x2 := hbx.z.2.2.1
  have x3 := hbx.z.2.2.2
  have bw : Below W.heap.size W w2 := b1.trans (b2.mono (by simp))
  have HG : Hid (∀ q0 q1 q2 q3, Got W ((((w2.setCell ⟨W.heap.size, 0, none⟩ q0).setCell ⟨W.heap.size, 1, none⟩ q1).setCell ⟨W.heap.size, 2, none⟩ q2).setCell ⟨W.heap.size, 3, none⟩ q3) v u.val) := fun q0 q1 q2 q3 => by
    refine ⟨u, rfl, ?_, hlike, fun k hk => ?_, V.Pl.turn (turn_four _ _ _ _ _ _) u hpl (fun k hk e => by have := hfar k hk; simp at this; omega)⟩
    · have t : Turn (· = W.heap.size) w2 ((((w2.setCell ⟨W.heap.size, 0, none⟩ q0).setCell ⟨W.heap.size, 1, none⟩ q1).setCell ⟨W.heap.size, 2, none⟩ q2).setCell ⟨W.heap.size, 3, none⟩ q3) := turn_four _ _ _ _ _ _
      have := V.At.turn' t u hu (fun k hk e => by have := hfar k hk; simp at this; omega)
      exact this.more t.size _
    · have := hfar k hk
      simp at this
      omega
  clear HC HM b1 b2 hbx hu hlike hfar hpl c0
  go_wp2_with fail
  refine bodyPost_ret (v := .tuple #[u.val, .bool true]) (by simp [results, Tryd.results12, go_sem, x0, x1, x2, x3, V.val]) rfl ?_
  exact ⟨_, rfl, unhide HG _ _ _ _, (((bw.setCell (Nat.le_refl _) _).setCell (Nat.le_refl _) _).setCell (Nat.le_refl _) _).setCell (Nat.le_refl _) _⟩

set_option maxRecDepth 100000 in
/-- A slice of values that came in. -/
theorem vals_of {H : Type} {enc : TypeId × Value → H} {w : World} {base : Nat} {spare : Nat → Bool} {held : Bool} {fuel : Nat} {cs : List Value} {x : DataW H × List MemPlace} (h : DataW.trod enc Tryd.prog w base spare held fuel 22 cs = some x) :
    ∃ L : V, cs = [.slice L.addr L.len L.cap] ∧ L.At w.heap.size w ∧ L.len ≤ L.cap ∧ L.cap ≤ 9223372036854775807 := by
  have hc : Tryd.prog.cellsOf 32 = 4 := by kernel_rfl
  rcases DataW.trod_slice Tryd.underlying22 h with ⟨e3, _⟩ | ⟨a, len, cap, elems, rest, m, hm, e3, _, hb, hle, hmx, hlen, hel, _, _⟩
  · exact ⟨.mk 0 0 ⟨#[]⟩ .none 0 0 (fun _ => .none), e3, bare_at (by omega) (by omega) (by decide), Nat.le_refl _, Nat.zero_le _⟩
  · unfold maxLen at hmx
    have hspot : 0 < len → a.spot = .none := fun h0 => by
      have hi2 := hel 0 h0
      rw [List.getElem?_eq_getElem (by omega)] at hi2
      obtain ⟨cs', h1, h2⟩ := Option.bind_eq_some_iff.1 hi2
      obtain ⟨v, rfl, _⟩ := open_val _ cs' _ h2
      rw [hc] at h1
      obtain ⟨_, _, hcell⟩ := World.cells?_some h1
      have d0 := hcell 0 (by omega)
      rw [add_add] at d0
      simp only [List.getElem?_cons_zero, Nat.zero_mul, Nat.add_zero] at d0
      simpa [Addr.add] using World.cell?_spot d0
    obtain ⟨kid, hkid⟩ := choose_lt (α := V) (n := len) (p := fun i v => v.At w.heap.size w ∧ ∃ b o, a = ⟨b, o, .none⟩ ∧ b < w.heap.size ∧ CellsAt w b (o + i * 4) v) (fun i hi => by
      have hi2 := hel i hi
      rw [List.getElem?_eq_getElem (by omega)] at hi2
      obtain ⟨cs', h1, h2⟩ := Option.bind_eq_some_iff.1 hi2
      obtain ⟨v, rfl, hv⟩ := open_val _ cs' _ h2
      rw [hc] at h1
      obtain ⟨_, _, hcell⟩ := World.cells?_some h1
      have d0 := hcell 0 (by omega)
      have d1 := hcell 1 (by omega)
      have d2 := hcell 2 (by omega)
      have d3 := hcell 3 (by omega)
      obtain ⟨b, o, spot⟩ := a
      rw [add_add] at d0 d1 d2 d3
      simp only [List.getElem?_cons_zero, List.getElem?_cons_succ, Nat.add_zero] at d0 d1 d2 d3
      have hadd : ∀ j, 0 < j → (Addr.add ⟨b, o, spot⟩ j) = ⟨b, o + j, .none⟩ := fun j hj => by
        simp [Addr.add]; omega
      rw [hadd _ (by omega)] at d1 d2 d3
      have hs : spot = .none := hspot (by omega)
      subst hs
      refine ⟨v, hv, b, o, rfl, by have := World.block_lt_of_cell? _ _ d1; exact this, ?_, by simpa [Nat.add_assoc] using d1, by simpa [Nat.add_assoc] using d2, by simpa [Nat.add_assoc] using d3⟩
      have e5 : (Addr.add ⟨b, o, .none⟩ (i * 4)) = ⟨b, o + i * 4, .none⟩ := by
        by_cases h0 : i * 4 = 0
        · simp [Addr.add, h0]
        · rw [hadd _ (by omega)]
      rw [e5] at d0
      exact d0)
    refine ⟨.mk 0 0 ⟨#[]⟩ (some a) len cap kid, e3, V.At.of ⟨(by show (-9223372036854775808 : Int) ≤ 0; decide), (by show (0 : Int) ≤ 9223372036854775807; decide), (by show (-9223372036854775808 : Int) ≤ 0; decide), (by show (0 : Int) ≤ 9223372036854775807; decide), (by show (0 : Nat) ≤ _; omega), by show len ≤ _; omega, fun i hi => ?_⟩ (fun i hi => (hkid i hi).1), hle, by show cap ≤ _; omega⟩
    obtain ⟨b, o, e6, hb6, hc6⟩ := (hkid i hi).2
    exact ⟨b, o, by rw [← e6]; rfl, hb6, hc6⟩
theorem vals_slice {H : Type} {enc : TypeId × Value → H} {w : World} {a : Option Addr} {len cap : Nat} {d : DataW H} {p : List MemPlace} (h : DataW.Trod enc Tryd.prog w 0 (fun _ => true) true 22 (.slice a len cap) d p) :
    ∃ L : V, a = L.addr ∧ len = L.len ∧ cap = L.cap ∧ L.At w.heap.size w ∧ L.len ≤ L.cap ∧ L.cap ≤ 9223372036854775807 := by
  obtain ⟨fuel, hf⟩ := h
  obtain ⟨L, hl, h1, h2, h3⟩ := vals_of hf
  simp only [Value.cells, List.cons.injEq, and_true, Value.slice.injEq] at hl
  exact ⟨L, hl.1, hl.2.1, hl.2.2, h1, h2, h3⟩
end Go.Proofs.YtbfkcfhkccicoaaDoor

namespace Go.Proofs.YtbfkcfhkccicoaaDoor
open Go.RowKit Go.Maps

theorem infoInt : (Tryd.prog.info? 3).map (fun i => (i.zero, i.size, i.bytes)) = some (some (.int .i64 0), 1, 8) := by kernel_rfl

/-- The numbers that were met, as far as k go. -/
def numsTo (kid : Nat → V) (k M : Nat) : List Int := (List.range M).map fun i => if i < k then numAt kid i else 0
theorem numsTo_len (kid : Nat → V) (k M : Nat) : (numsTo kid k M).length = M := by simp [numsTo]
theorem numsTo_zero (kid : Nat → V) (M : Nat) : numsTo kid 0 M = List.replicate M 0 := by
  unfold numsTo
  apply List.ext_getElem
  · simp
  · intro i h1 h2; simp
theorem numsTo_next (kid : Nat → V) (k M : Nat) : (numsTo kid k M).set k (numAt kid k) = numsTo kid (k + 1) M := by
  apply List.ext_getElem
  · simp [numsTo]
  · intro i h1 h2
    simp only [numsTo, List.getElem_set, List.getElem_map, List.getElem_range]
    by_cases e : k = i
    · subst e; simp
    · rw [if_neg e]
      by_cases h : i < k
      · rw [if_pos h, if_pos (by omega)]
      · rw [if_neg h, if_neg (by omega)]
theorem numsTo_at (kid : Nat → V) {i M : Nat} (hi : i < M) : (numsTo kid M M)[i]? = some (numAt kid i) := by
  simp [numsTo, hi]

theorem ownsRow_turn {Q : Nat → Prop} {w w' : World} {base : Nat} {e : TypeId} {size g n cap : Nat} {xs : List Value} (h : w.ownsRow base e size (.slice (some ⟨g, 0, none⟩) n cap) n xs) (t : Turn Q w w') (hg : ¬ Q g) : w'.ownsRow base e size (.slice (some ⟨g, 0, none⟩) n cap) n xs := by
  refine ⟨h.1, ?_⟩
  rcases h.2 with ⟨h0, _⟩ | ⟨g', cap', cur, e1, hb, hh, r⟩
  · simp at h0
  · refine .inr ⟨g', cap', cur, e1, hb, ?_, r⟩
    simp only [Value.slice.injEq, Option.some.injEq, Addr.mk.injEq, and_true, true_and] at e1
    obtain ⟨rfl, rfl⟩ := e1
    exact (t.block g (Array.getElem?_eq_some_iff.1 hh).1 hg).trans hh

/-- Between two Puts. -/
structure PL (W wr : World) (L : V) (p : SP) (sb g M k : Nat) : Prop where
  bw : Below W.heap.size W wr
  sto : Sto wr p (putsTo L.kid k)
  ok : PutsOk L.kid k
  base : W.heap.size ≤ p.base
  met : wr.ownsRow W.heap.size 3 1 (.slice (some ⟨g, 0, none⟩) M M) M ((numsTo L.kid k M).map (Value.int .i64))
  gp : ¬ p.own g
  gs : g ≠ p.sb
  sb : p.sb = sb

section
variable {W wr w2 : World} {L : V} {p p2 : SP} {sb g M k : Nat} {ob : Obj}

theorem PL.glt (h : PL W wr L p sb g M k) : W.heap.size ≤ g ∧ g < wr.heap.size := World.ownsRow.lt h.met g rfl
theorem PL.later (h : PL W wr L p sb g M k) (b : Below wr.heap.size wr w2) : PL W w2 L p sb g M k :=
  ⟨h.bw.trans (b.mono h.bw.size), h.sto.later b, h.ok, h.base, ownsRow_turn h.met (Turn.of_below (S := fun _ => False) b) (fun e => e), h.gp, h.gs, h.sb⟩
theorem PL.uses (h : PL W wr L p sb g M k) {v : V} (hat : v.At W.heap.size W) : ∀ q, v.uses q → ¬ p.own q := fun q hq e => by
  have h1 := V.uses_lt v hat q hq
  have h2 := (h.sto.own_lt q e).1
  have h3 := h.base
  omega
theorem PL.below_step (h : PL W wr L p sb g M k) (st : Step (wr.alloc ob) w2 p p2) : Below W.heap.size W w2 := by
  have b1 : Below W.heap.size W (wr.alloc ob) := h.bw.alloc h.bw.size _
  exact b1.trans (st.turn.below b1.size (fun q e => by have h2 := (h.sto.own_lt q e).1; have h3 := h.base; omega))
theorem PL.met_step (h : PL W wr L p sb g M k) (st : Step (wr.alloc ob) w2 p p2) : w2.ownsRow W.heap.size 3 1 (.slice (some ⟨g, 0, none⟩) M M) M ((numsTo L.kid k M).map (Value.int .i64)) :=
  ownsRow_turn (World.ownsRow.alloc h.met ob) st.turn h.gp
theorem PL.box_step (h : PL W wr L p sb g M k) (st : Step (wr.alloc ob) w2 p p2) : w2.heap[wr.heap.size]? = some ob :=
  (st.turn.block wr.heap.size (by simp) (fun e => by have := (h.sto.own_lt _ e).2; omega)).trans (World.alloc_heap_new wr ob)
theorem PL.cell_step (h : PL W wr L p sb g M k) (st : Step (wr.alloc ob) w2 p p2) (hk : k < M) : (∃ c, w2.cell? ⟨g, k, none⟩ = some (.int .i64 c)) ∧ w2.frozen? ⟨g, k, none⟩ = false := by
  have hm := h.met_step st
  refine ⟨⟨(numsTo L.kid k M)[k]'(by rw [numsTo_len]; exact hk), ?_⟩, World.ownsRow.frozenAt hm k⟩
  rw [World.ownsRow.cellAt hm k (by omega), List.getElem?_map, List.getElem?_eq_getElem (by rw [numsTo_len]; exact hk)]
  rfl
theorem PL.next (h : PL W wr L p sb g M k) (st : Step (wr.alloc ob) w2 p p2) (hs : Sto w2 p2 (putAll (L.kid k) (putsTo L.kid k)).2) (he : errAt L.kid k = 0) : PL W (w2.setCell ⟨g, k, none⟩ (.int .i64 (numAt L.kid k))) L p2 sb g M (k + 1) := by
  have hg := h.glt
  have hz : (wr.alloc ob).heap.size = wr.heap.size + 1 := by simp
  have hne : ¬ p2.own g := fun e => (st.own g e).elim h.gp (fun e2 => by omega)
  have hns : g ≠ p2.sb := by rw [st.sb]; exact h.gs
  have t : Turn (· = g) w2 (w2.setCell ⟨g, k, none⟩ (.int .i64 (numAt L.kid k))) := Turn.setCell w2 _ _ rfl
  refine ⟨(h.below_step st).setCell hg.1 _, hs.stays t (fun q e e2 => ?_), h.ok.next he, by rw [st.base]; exact h.base, ?_, hne, hns, st.sb.trans h.sb⟩
  · subst e2
    rcases e with e | e
    · exact hns e
    · exact hne e
  · have := (World.ownsRow.stored (h.met_step st) k (.int .i64 (numAt L.kid k))).1
    rw [← List.map_set, numsTo_next L.kid k M] at this
    exact this
theorem PL.num_at (h : PL W wr L p sb g M M) {i : Nat} (hi : i < M) : wr.cell? ⟨g, i, none⟩ = some (.int .i64 (numAt L.kid i)) := by
  rw [World.ownsRow.cellAt h.met i (by omega), List.getElem?_map, numsTo_at L.kid hi]
  rfl
end
end Go.Proofs.YtbfkcfhkccicoaaDoor
